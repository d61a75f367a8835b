/- The specification's reading: l3Parse, ParseExpr. -/
import Derived.Test.YtdidbnhfknpheaaDoorSxD
import Derived.Deep.RegionHeld3
namespace Go.Proofs.YtdidbnhfknpheaaDoor
open Go.RowKit
set_option linter.unusedVariables false
namespace Ex
open Nd (NodeD)
theorem nvals_get : ∀ (l : List NodeD) (i : Nat) (h : i < l.length), (nvals l)[i * 4]? = some (.int .i64 l[i].kind) ∧ (nvals l)[i * 4 + 1]? = some (.int .i64 l[i].value) ∧ (nvals l)[i * 4 + 2]? = some (.int .i64 l[i].left) ∧ (nvals l)[i * 4 + 3]? = some (.int .i64 l[i].right)
  | [], i, h => by simp at h
  | n :: l, 0, h => by simp [nvals, nval]
  | n :: l, i + 1, h => by
    have ih := nvals_get l i (by simpa using h)
    have e : nvals (n :: l) = nval n ++ nvals l := by simp [nvals]
    have e4 : (nval n).length = 4 := rfl
    simp only [List.getElem_cons_succ]
    rw [e]
    refine ⟨?_, ?_, ?_, ?_⟩
    · rw [List.getElem?_append_right (by omega), e4, show (i + 1) * 4 - 4 = i * 4 by omega]; exact ih.1
    · rw [List.getElem?_append_right (by omega), e4, show (i + 1) * 4 + 1 - 4 = i * 4 + 1 by omega]; exact ih.2.1
    · rw [List.getElem?_append_right (by omega), e4, show (i + 1) * 4 + 2 - 4 = i * 4 + 2 by omega]; exact ih.2.2.1
    · rw [List.getElem?_append_right (by omega), e4, show (i + 1) * 4 + 3 - 4 = i * 4 + 3 by omega]; exact ih.2.2.2
theorem at_of_owns {w : World} {B : Nat} {v : Value} {ns : List NodeD} (h : w.ownsRow B 35 4 v ns.length (nvals ns)) : Nd.At w B v ns := by
  obtain ⟨hl, ⟨rfl, h0⟩ | ⟨g, cap, cur, rfl, hbg, hg, hle, hm, hs, ht⟩⟩ := h
  · exact ⟨none, 0, by rw [h0], by omega, by unfold maxLen; omega, .inl (List.length_eq_zero_iff.1 h0)⟩
  · refine ⟨some ⟨g, 0, none⟩, cap, rfl, hle, hm, .inr ⟨g, 0, rfl, hbg, (Array.getElem?_eq_some_iff.1 hg).1, fun i hi => ?_⟩⟩
    have hc : ∀ j v, j < ns.length * 4 → (nvals ns)[j]? = some v → w.cell? ⟨g, 0 + j, none⟩ = some v := fun j v hj hv => by
      have h2 := congrArg (·[j]?) ht
      simp only [List.getElem?_take, hj, if_true, hv] at h2
      have h3 : cur[j]? = some v := by simpa using h2
      simp [World.cell?, hg, h3]
    obtain ⟨g1, g2, g3, g4⟩ := nvals_get ns i hi
    exact ⟨hc _ _ (by omega) g1, hc _ _ (by omega) g2, hc _ _ (by omega) g3, hc _ _ (by omega) g4⟩
def parse1Post (text : List UInt8) (w : World) (e : Ending) (w' : World) : Prop :=
  ∃ (a : Option Addr) (n c : Nat) (ok : Bool), e = .returned (.tuple #[.slice a n c, .bool ok]) ∧ Below w.heap.size w w' ∧ ((ok = true ∧ ∃ t, parseF text = some t ∧ n = (t.nodes 0).length ∧ w'.ownsRow (w.heap.size + 1) 35 4 (.slice a n c) n (nvals (t.nodes 0))) ∨ (ok = false ∧ parseF text = none))
theorem part_no {text : List UInt8} {x : Int} {p' : Nat} {ns' : List NodeD} (h : partW (text.length + 1) text 0 [] x false p' ns') : parseF text = none := by
  refine parse_none (fun t ht hh => ?_)
  rcases h with ⟨h, _⟩ | ⟨_, h⟩
  · cases h
  · rw [List.drop_zero] at h
    have := h t [] ht
    simp only [List.length_nil] at this
    omega
theorem part_rest {text : List UInt8} {x : Int} {p' : Nat} {ns' : List NodeD} (h : partW (text.length + 1) text 0 [] x true p' ns') (hp : p' < text.length) : parseF text = none := by
  refine parse_none (fun t ht hh => ?_)
  rcases h with ⟨_, ⟨t2, h1, _, _⟩ | ⟨h1, _, _⟩⟩ | ⟨h, _⟩
  · rw [List.drop_zero, ht] at h1
    simp only [Option.some.injEq, Prod.mk.injEq] at h1
    have := congrArg List.length h1.2
    rw [List.length_drop, List.length_nil] at this
    omega
  · rw [List.drop_zero, ht] at h1; cases h1
  · cases h
theorem part_whole {text : List UInt8} {x : Int} {ns' : List NodeD} (h : partW (text.length + 1) text 0 [] x true text.length ns') : ∃ t : Tm, gp (text.length + 1) text = some (t, []) ∧ ns' = t.nodes 0 := by
  rcases h with ⟨_, ⟨t2, h1, h2, h3⟩ | ⟨h1, h2, _⟩⟩ | ⟨h, _⟩
  · rw [List.drop_zero, List.drop_eq_nil_of_le (Nat.le_refl _)] at h1
    exact ⟨t2, h1, by rw [h3]; rfl⟩
  · omega
  · cases h
set_option maxRecDepth 100000 in
set_option maxHeartbeats 8000000 in
theorem specParse1 (text : List UInt8) (w : World) (hl : text.length ≤ 200) : Calls Tryd.prog 20 #[.string (str text)] w (parse1Post text w) := by
  have e1 : (str text).size = text.length := str_size text
  have hb0 : Below w.heap.size w (w.alloc (.cells #[.string (str text), .int .i64 0, .slice none 0 0] 74)) := (Below.refl _ w).alloc (Nat.le_refl _) _
  have HSR : Hid (Sr (w.alloc (.cells #[.string (str text), .int .i64 0, .slice none 0 0] 74)) w.heap.size text 0 []) := hid ⟨.slice none 0 0, World.alloc_heap_new w _, World.ownsRow_nil _ _ _ 4⟩
  have HT := hid (specPart w.heap.size text (by omega) (text.length + 1) 0 [] _ (by omega) (by omega) (by simp; omega) HSR.out)
  have HB := hid hb0
  unfold parse1Post
  clear hb0 HSR
  go_enter Tryd.func20, Tryd.ntmps20
  go_wp2_with fail
  refine HT.out.mono ?_
  rintro e w1 ⟨x, ok, p', ns', rfl, hr, hp1, hp2, hn, hW, hb⟩
  have hsz := hr.lt
  obtain ⟨c0, c1, f1, f2, a, cap, c2, ho⟩ := hr.c
  have HB1 := hid (HB.out.trans hb)
  have HWW := hid hW
  have HO := hid ho
  clear HT HB hb hW hr ho f1 f2 c0
  have hsl : slack ok ≤ 1 := by cases ok <;> decide
  have hn2 : ns'.length ≤ 202 := by simp only [List.length_nil] at hn; omega
  clear hn hsl
  cases ok
  · have HV := hid (part_no HWW.out)
    go_wp2
    go_quiet (fail)
    go_wp2
    go_ret2
    exact ⟨a, _, cap, false, rfl, Ints.below_drewN HB1.out _, .inr ⟨rfl, HV.out⟩⟩
  by_cases hq : p' < text.length
  · have q1 : ((p' : Int) == (text.length : Int)) = false := by simp; omega
    have HV := hid (part_rest HWW.out hq)
    go_wp2
    go_quiet (fail)
    go_wp2
    go_ret2
    exact ⟨a, _, cap, false, rfl, Ints.below_drewN HB1.out _, .inr ⟨rfl, HV.out⟩⟩
  obtain rfl : p' = text.length := by omega
  have q1 : ((text.length : Int) == (text.length : Int)) = true := by simp
  obtain ⟨t, ht, hns⟩ := part_whole HWW.out
  have HF := hid (fun (wx : World) (h : Below w1.heap.size w1 wx) => specFault1 _ ns' _ wx (by omega) (at_of_owns (owns_keep HO.out h)))
  have HV : Hid ((eFault ns' = 0 → parseF text = some t) ∧ (eFault ns' ≠ 0 → parseF text = none)) := hid (by
    have hnear := (gp_txt _ _ _ _ ht).2
    constructor
    · intro h
      rw [hns] at h
      exact parse_some ht ((e_nodes hnear).1 h)
    · intro h
      refine parse_none (fun t' ht' hh => ?_)
      rw [ht] at ht'
      cases ht'
      rw [hns] at h
      exact h ((e_nodes hnear).2 hh))
  have HNS := hid hns
  have hself : Below w1.heap.size w1 w1 := Below.refl _ _
  clear ht hns HWW hq hp1 hp2
  generalize eFault ns' = ef at *
  obtain ⟨bf, hbf⟩ : ∃ bf, (ef == 0) = bf := ⟨_, rfl⟩
  have HBF := hid hbf
  go_wp2
  go_region_held3 (fun wx => wx.cell? ⟨w.heap.size, 1, none⟩ = some (.int .i64 (text.length : Int)) ∧ wx.cell? ⟨w.heap.size, 2, none⟩ = some (.slice a ns'.length cap) ∧ Below w1.heap.size w1 wx) (refine ⟨?_, ?_, ?_⟩ <;> first | assumption | exact hself.drew | (simp [*]; done)) (first
    | (go_at_call 22; refine (HF.out _ ?_).mono ?_; (first | assumption | exact hself.drew); rintro e w4 ⟨rfl, hb4⟩; have hB4 : Below w1.heap.size w1 w4 := hself.drew.trans hb4; have hk1 := kept_cell hB4 hsz c1; have hk2 := kept_cell hB4 hsz c2))
  go_wp2
  go_ret2
  refine ⟨a, ns'.length, cap, bf, rfl, HB1.out.trans (hB4.mono (Nat.le_of_lt hsz)), ?_⟩
  have hO4 := owns_keep HO.out hB4
  have hns := HNS.out
  cases bf
  · exact .inr ⟨rfl, HV.out.2 (fun e => by rw [e] at hbf; cases hbf)⟩
  · refine .inl ⟨rfl, t, HV.out.1 (eq_of_beq hbf), by rw [hns], ?_⟩
    rw [← hns]
    exact hO4
set_option maxRecDepth 100000 in
set_option maxHeartbeats 4000000 in
theorem specParse (l : List UInt8) (w : World) (hl : l.length ≤ 1048576) : Calls Tryd.prog 8 #[.string (str l)] w (PxPost l w) := by
  have e1 : (str l).size = l.length := str_size l
  have hb0 : Below w.heap.size w (w.alloc (.cells #[.int .i64 0, .slice none 0 0] 27)) := (Below.refl _ w).alloc (Nat.le_refl _) _
  unfold PxPost
  by_cases h200 : 200 < l.length
  · have q : (200 : Int) < (l.length : Int) := by omega
    have HV := hid (p_many h200)
    have HB := hid hb0
    clear h200 hb0
    generalize str l = sl at *
    go_enter Tryd.func8, Tryd.ntmps8
    go_wp2
    refine bodyPost_ret (v := .agg #[.int .i64 2, .slice none 0 0]) (by simp [results, Tryd.results8, go_sem]) rfl ⟨⟨_, ret_expr HV.out.1.symm, ?_⟩, (Below.refl _ w).alloc (Nat.le_refl _) _⟩
    rw [HV.out.2]
    exact World.ownsRow_nil _ _ _ 4
  have q : ¬ (200 : Int) < (l.length : Int) := by omega
  have HT := hid (specParse1 l (w.alloc (.cells #[.int .i64 0, .slice none 0 0] 27)) (by omega))
  have r0 : (w.alloc (.cells #[.int .i64 0, .slice none 0 0] 27)).cell? ⟨w.heap.size, 0, none⟩ = some (.int .i64 0) := by go_simp
  have r1 : (w.alloc (.cells #[.int .i64 0, .slice none 0 0] 27)).cell? ⟨w.heap.size, 1, none⟩ = some (.slice none 0 0) := by go_simp
  have f0 : (w.alloc (.cells #[.int .i64 0, .slice none 0 0] 27)).frozen? ⟨w.heap.size, 0, none⟩ = false := by go_simp
  have f1 : (w.alloc (.cells #[.int .i64 0, .slice none 0 0] 27)).frozen? ⟨w.heap.size, 1, none⟩ = false := by go_simp
  have hs0 : (w.alloc (.cells #[.int .i64 0, .slice none 0 0] 27)).heap.size = w.heap.size + 1 := by simp
  have HB := hid hb0
  have R0 := hid r0
  have R1 := hid r1
  have F0 := hid f0
  have F1 := hid f1
  have HS0 := hid hs0
  have HNO := hid (p_none h200)
  have HSO := hid (fun (t : Tm) => p_some (t := t) h200)
  clear r0 r1 f0 f1 hb0 h200 hs0
  go_enter Tryd.func8, Tryd.ntmps8
  go_wp2_with fail
  refine HT.out.mono ?_
  rintro e w1 ⟨a, n, c, ok, rfl, hb1, hp⟩
  have hlt0 : w.heap.size < (w.alloc (.cells #[.int .i64 0, .slice none 0 0] 27)).heap.size := by rw [HS0.out]; omega
  have c0 := kept_cell hb1 (b := w.heap.size) hlt0 R0.out
  have c1 := kept_cell hb1 (b := w.heap.size) hlt0 R1.out
  have d0 := kept_free hb1 (b := w.heap.size) hlt0 F0.out
  have d1 := kept_free hb1 (b := w.heap.size) hlt0 F1.out
  have HB1 : Hid (Below w.heap.size w w1) := hid (HB.out.trans (hb1.mono (Nat.le_of_lt hlt0)))
  rw [HS0.out] at hp
  clear HT R0 R1 F0 F1 hb1 HB HS0 hlt0
  rcases hp with ⟨rfl, t, hpt, hn, ho⟩ | ⟨rfl, hpt⟩
  · have HP := hid (HSO.out t hpt)
    subst hn
    have HOO : Hid (((w1.setCell ⟨w.heap.size, 0, none⟩ (.int .i64 0)).setCell ⟨w.heap.size, 1, none⟩ (.slice a (t.nodes 0).length c)).ownsRow (w.heap.size + 1) 35 4 (.slice a (t.nodes 0).length c) (t.nodes 0).length (nvals (t.nodes 0))) := hid (own_set2 (own_set2 (own_mono2 ho (by omega)) (by omega)) (by omega))
    clear hpt ho
    go_wp2
    refine bodyPost_ret (v := .agg #[.int .i64 0, .slice a (t.nodes 0).length c]) (by simp [results, Tryd.results8, go_sem, c0, c1]) rfl ⟨⟨_, ret_expr HP.out.1.symm, ?_⟩, setB (setB HB1.out (Nat.le_refl _) _) (Nat.le_refl _) _⟩
    rw [HP.out.2]
    exact HOO.out
  · have HP := hid (HNO.out hpt)
    clear hpt
    go_wp2
    refine bodyPost_ret (v := .agg #[.int .i64 5, .slice none 0 0]) (by simp [results, Tryd.results8, go_sem, c0, c1]) rfl ⟨⟨_, ret_expr HP.out.1.symm, ?_⟩, setB (setB HB1.out (Nat.le_refl _) _) (Nat.le_refl _) _⟩
    rw [HP.out.2]
    exact World.ownsRow_nil _ _ _ 4
end Ex
end Go.Proofs.YtdidbnhfknpheaaDoor
