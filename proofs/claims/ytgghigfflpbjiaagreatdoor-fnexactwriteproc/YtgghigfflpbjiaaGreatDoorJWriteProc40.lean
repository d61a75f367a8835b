/- The program's TreeOf. -/
import Derived.Test.YtgghigfflpbjiaaGreatDoorJWriteProc21
namespace Go.Proofs.YtgghigfflpbjiaaGreatDoor
open Go.RowKit
set_option linter.unusedVariables false
namespace Tf
open Ex (hid inR eFault str str_size textOf)
open Nd (NodeD)
open St (StepD)
open Tr (AttrD ElemD AttrsAt ElemsAt fault SmallE SmallA OkE OkA)
open Pf
open Nst (own)
theorem tree_small {ss : List StepD} (h : pFault ss = 0) : ∀ e ∈ treeL ss, (e.tag.size : Int) ≤ 64 ∧ (e.attrs.length : Int) ≤ 64 ∧ ∀ a ∈ e.attrs, (a.name.size : Int) ≤ 64 ∧ (a.value.size : Int) ≤ 64 := by
  intro e he
  unfold treeL at he
  obtain ⟨s, hs, rfl⟩ := List.mem_map.1 he
  obtain ⟨i, hi, rfl⟩ := List.getElem_of_mem hs
  have hF := fine hi h
  have hv := val_size hF (name_nf hi h)
  have ht := attrs_len ss[i]
  have hw := word_len ss[i].kind
  refine ⟨?_, ?_, fun a ha => ?_⟩
  · show ((str (wordL ss[i].kind)).size : Int) ≤ 64
    rw [str_size]; omega
  · show ((attrsOf ss[i]).length : Int) ≤ 64
    omega
  · have := hv a ha
    omega
theorem tree_len (ss : List StepD) : (treeL ss).length = ss.length := by unfold treeL; rw [List.length_map]
theorem tree_smallE {ss : List StepD} (h : pFault ss = 0) : SmallE 1048576 (treeL ss) := by
  refine ⟨?_, fun e he => ?_⟩
  · have := (of_p h).1
    rw [tree_len]; omega
  · obtain ⟨h1, h2, h3⟩ := tree_small h e he
    exact ⟨by omega, by omega, fun a ha => by have := h3 a ha; omega⟩
theorem tree_okE {ss : List StepD} (h : pFault ss = 0) : OkE (treeL ss) := by
  intro e he
  obtain ⟨h1, h2, h3⟩ := tree_small h e he
  have hm : (64 : Nat) ≤ maxLen := by decide
  exact ⟨by omega, fun a ha => by have := h3 a ha; omega, by omega⟩
theorem take_succ_tree {ss : List StepD} {j : Nat} (h : j < ss.length) : treeL (ss.take (j + 1)) = treeL (ss.take j) ++ [elemD ss[j]] := by
  unfold treeL
  rw [← List.take_append_getElem h, List.map_append]
  rfl
theorem take_tree_len {ss : List StepD} {j : Nat} (h : j ≤ ss.length) : (treeL (ss.take j)).length = j := by
  rw [tree_len, List.length_take]; omega
theorem ret3 {c d : Int} {v : Value} (h : c = d) : Ending.returned (.agg #[.int .i64 c, .int .i64 0, v]) = .returned (.agg #[.int .i64 d, .int .i64 0, v]) := by rw [h]
theorem heap_set3 {w : World} {b g : Nat} {x y z : Value} (h : g ≠ b) : (((w.setCell ⟨b, 0, none⟩ x).setCell ⟨b, 1, none⟩ y).setCell ⟨b, 2, none⟩ z).heap[g]? = w.heap[g]? := by
  rw [Below.heap_setCell _ _ _ _ (by dsimp only; omega), Below.heap_setCell _ _ _ _ (by dsimp only; omega), Below.heap_setCell _ _ _ _ (by dsimp only; omega)]
set_option maxRecDepth 100000 in
set_option maxHeartbeats 8000000 in
theorem implTreeOf (ss : List StepD) (v : Value) (w : World) (hsm : St.Small 1048576 ss) (ha : St.At w 0 v ss) (hr : Rul w) (ht : Ex.Tab w) (he : Esc.Ent w) (hw : 2 < w.heap.size) :
    Calls Tryz.prog 8 #[v] w fun e w' => (∃ u, e = .returned (.agg #[.int .i64 (treeC ss), .int .i64 0, u]) ∧ EOwn w' (w.heap.size + 1) u (treeE ss)) ∧ Below w.heap.size w w' := by
  obtain ⟨a, cap, rfl⟩ := ha.slice
  have hgl := hr.lt
  have HB0 : Hid (Below w.heap.size w (w.alloc (.cells #[.int .i64 0, .int .i64 0, .slice none 0 0] 26))) := hid ((Below.refl _ w).alloc (Nat.le_refl _) _)
  have HF := hid (implProcFault ss _ _ hsm (ha.below HB0.out) (hr.below HB0.out hgl))
  have HA := hid ha
  have HR := hid hr
  have HT := hid ht
  have HE := hid he
  have HS := hid hsm
  have hl := hsm.1
  obtain ⟨j0, hj, hy0, hy1, hy2⟩ := info_parts infoElem
  clear ha hr ht he hsm
  go_enter Tryz.func8, Tryz.ntmps8
  go_wp2_with fail
  refine HF.out.mono ?_
  rintro e w1 ⟨rfl, hb1⟩
  have B1 : Below w.heap.size w w1 := HB0.out.trans (hb1.mono HB0.out.size)
  have hz : (w.alloc (.cells #[.int .i64 0, .int .i64 0, .slice none 0 0] 26)).heap.size = w.heap.size + 1 := by simp
  have l1 : w.heap.size + 1 ≤ w1.heap.size := by have := hb1.size; omega
  have u0 := kept_cell hb1 (b := w.heap.size) (o := 0) (v := .int .i64 0) (by omega) (by go_simp)
  have u1 := kept_cell hb1 (b := w.heap.size) (o := 1) (v := .int .i64 0) (by omega) (by go_simp)
  have u2 := kept_cell hb1 (b := w.heap.size) (o := 2) (v := .slice none 0 0) (by omega) (by go_simp)
  have x0 := kept_free hb1 (b := w.heap.size) (o := 0) (by omega) (by go_simp)
  have x1 := kept_free hb1 (b := w.heap.size) (o := 1) (by omega) (by go_simp)
  have x2 := kept_free hb1 (b := w.heap.size) (o := 2) (by omega) (by go_simp)
  clear hz HF hb1
  by_cases hp : pFault ss = 0
  · have HSM2 := hid (tree_smallE hp)
    have HOK := hid (tree_okE hp)
    have HTC := hid (treeC_f hp)
    have HFI := hid (fun (i : Nat) (hi : i < ss.length) => fine hi hp)
    have h24 := (of_p hp).1
    have hln : ss.length ≤ 24 := by omega
    have HB1 := hid B1
    have b1 : (pFault ss != 0) = false := by simp [hp]
    clear h24 B1
    generalize hpf : pFault ss = pf at *
    clear hpf hp
    go_wp2_with fail
    go_loopw [4, 6, 16] (fun ev sp i wr => ∃ (j : Nat), i = .int .i64 j ∧ j ≤ ss.length ∧ (∃ a7 n7 c7, ev = .slice a7 n7 c7) ∧ (∃ us, sp = us) ∧ Hid (EOwn wr (w.heap.size + 1) ev (treeL (ss.take j))) ∧ Hid (Below (w.heap.size + 1) w1 wr)) (fun _ _ i _ => ss.length - (intOf i).toNat)
    case atStart => exact ⟨0, rfl, Nat.zero_le _, ⟨_, _, _, rfl⟩, ⟨_, rfl⟩, hid (EOwn.nil _ _), hid (Below.refl _ _)⟩
    case round =>
      obtain ⟨j, rfl, hjl, ⟨a7, n7, c7, rfl⟩, ⟨us, rfl⟩, HO, HB⟩ := hrel
      have HBW := hid (HB1.out.trans (HB.out.mono (Nat.le_succ _)))
      have lr := HB.out.size
      by_cases hlt : j < ss.length
      · have q1 : (j : Int) < (ss.length : Int) := by omega
        obtain ⟨g, o, vc, ve, rfl, hg, d0, d1, d2, d3, d4, d5, hvc, hve⟩ := (HA.out.below HBW.out).at hlt
        obtain ⟨a2, cap2, rfl⟩ := hvc.slice
        obtain ⟨a3, cap3, rfl⟩ := hve.slice
        have hb2 : Below wr.heap.size wr (wr.alloc (sobj ss[j] (.slice a2 ss[j].cond.length cap2) (.slice a3 ss[j].expr.length cap3))) := (Below.refl _ wr).alloc (Nat.le_refl _) _
        have HB2w := hid (HBW.out.trans (hb2.mono HBW.out.size))
        have HEL := hid (implElem 0 ss[j] _ _ _ (HFI.out j hlt) (HS.out.at hlt) (hvc.below hb2) (hve.below hb2) (HT.out.below HB2w.out) (HR.out.below HB2w.out hgl))
        unfold sagg at HEL
        have HTS := hid (take_succ_tree hlt)
        have htl : (treeL (ss.take j)).length ≤ 24 := by rw [take_tree_len (ss := ss) (j := j) (by omega)]; omega
        have HED : Hid (elemD ss[j] = ⟨str (wordL ss[j].kind), ss[j].parent, attrsOf ss[j]⟩) := hid rfl
        have HB2 := hid hb2
        generalize ss[j] = sj at *
        generalize htr : treeL (ss.take j) = tr at *
        clear hvc hve hb2 htr
        go_wp2_with fail
        refine HEL.out.mono ?_
        rintro e w3 ⟨⟨va, rfl, hoa⟩, hb3⟩
        obtain ⟨av, cv, rfl⟩ := Nst.own_slice hoa
        have HB3 := hid (HB2.out.trans (hb3.mono HB2.out.size))
        have HOA := hid hoa
        obtain ⟨F, hF⟩ := HO.out
        have HEF := hid hF
        have HRW := hid (Nst.own_kept hF.row (fun b hb => HB3.out.block b (Nst.own_lt hF.row hb).2))
        have l3 := HB3.out.size
        have hn7 : n7 = tr.length := by
          obtain ⟨a', c', e'⟩ := Nst.own_slice hF.row
          cases e'; rfl
        subst hn7
        clear hoa hb3 hF HEL HO
        go_wp2_with (at_builtin; go_must (refine wpList_append_own_at _ rfl _ _ 24 rfl (w.heap.size + 1) 53 j0 (.agg #[.string ⟨#[]⟩, .int .i64 0, .slice none 0 0]) 3 48 Tryz.underlying24 hj hy0 hy1 hy2 rfl (by decide) _ _ _ rfl (HRW.out.alloc _) ⟨w3.heap.size, 0, none⟩ 1 1 [.string (str (wordL sj.kind)), .int .i64 sj.parent, .slice av (attrsOf sj).length cv] rfl rfl (news #[.string (str (wordL sj.kind)), .int .i64 sj.parent, .slice av (attrsOf sj).length cv] _ _ rfl) (by simp [Value.oneCell']) (by unfold maxLen; omega) (by omega) (by simp; omega) ?_); intro v9 w9 hown9 hg9 _ hat9; obtain ⟨a9, c9, rfl⟩ := Nst.own_slice hown9)
        have hx4 : Below w3.heap.size w3 (w3.alloc (.cells #[.string (str (wordL sj.kind)), .int .i64 sj.parent, .slice av (attrsOf sj).length cv] 53)) := (Below.refl _ w3).alloc (Nat.le_refl _) _
        have HO9 : Hid (EOwn w9 (w.heap.size + 1) (.slice a9 (tr.length + 1) c9) (tr ++ [elemD sj])) := hid (push_at HEF.out (by omega) (HB3.out.trans (hx4.mono HB3.out.size)) (by rw [HED.out]; exact Nst.own_mono (HOA.out.alloc _) (by simp)) (by rw [HED.out]; exact hown9) hg9 hat9)
        have HB9 : Hid (Below (w.heap.size + 1) w1 w9) := hid (((HB.out.trans (HB3.out.mono (by omega))).alloc (by omega) _).grown hg9 (by simp; omega) (fun b e => (Nst.own_lt HRW.out e).1))
        clear hown9 hg9 hat9 hx4
        go_wp2
        exact ⟨⟨j + 1, by simp, by omega, ⟨_, _, _, rfl⟩, ⟨_, rfl⟩, hid (by rw [HTS.out]; exact HO9.out), HB9⟩, by simp [intOf]; omega⟩
      · have q1 : ¬ (j : Int) < (ss.length : Int) := by omega
        have hjn : j = ss.length := by omega
        have HO1 : Hid (EOwn wr (w.heap.size + 1) (.slice a7 n7 c7) (treeL ss)) := hid (by
          have := HO.out
          rw [hjn, List.take_length] at this
          exact this)
        have HFA := hid (Tr.implFault (treeL ss) _ wr HSM2.out HOK.out (HO1.out.elems.mono (Nat.zero_le _)) (Esc.Ent.below HE.out HBW.out hw) (by have := HBW.out.size; omega))
        have e0 := kept_cell HB.out (Nat.lt_succ_self _) u0
        have e1 := kept_cell HB.out (Nat.lt_succ_self _) u1
        have e2 := kept_cell HB.out (Nat.lt_succ_self _) u2
        have f0 := kept_free HB.out (Nat.lt_succ_self _) x0
        have f1 := kept_free HB.out (Nat.lt_succ_self _) x1
        have f2 := kept_free HB.out (Nat.lt_succ_self _) x2
        have lwr : w.heap.size < wr.heap.size := by omega
        clear HO hjn
        go_wp2_with fail
        refine HFA.out.mono ?_
        rintro e w5 ⟨rfl, hb5⟩
        have r0 := kept_cell hb5 lwr e0
        have r1 := kept_cell hb5 lwr e1
        have r2 := kept_cell hb5 lwr e2
        have t0 := kept_free hb5 lwr f0
        have t1 := kept_free hb5 lwr f1
        have t2 := kept_free hb5 lwr f2
        have HB5 := hid (HBW.out.trans (hb5.mono HBW.out.size))
        have HO5 := hid (HO1.out.below hb5)
        clear HFA hb5 e0 e1 e2 f0 f1 f2 HO1
        by_cases hf : fault (treeL ss) = 0
        · have HTE : Hid (treeE ss = treeL ss) := hid (by unfold treeE; rw [if_pos (HTC.out.trans hf)])
          have HT0 : Hid (treeC ss = 0) := hid (HTC.out.trans hf)
          have b2 : (fault (treeL ss) != 0) = false := by simp [hf]
          generalize hff : fault (treeL ss) = ff at *
          clear hff hf
          go_wp2
          refine bodyPost_ret (v := .agg #[.int .i64 0, .int .i64 0, .slice a7 n7 c7]) (by simp [results, Tryz.results8, go_sem, r0, r1, r2]) rfl ⟨⟨_, ret3 HT0.out.symm, ?_⟩, setB (setB (setB HB5.out (Nat.le_refl _) _) (Nat.le_refl _) _) (Nat.le_refl _) _⟩
          rw [HTE.out]
          exact HO5.out.keep (fun b h1 _ => heap_set3 (by omega))
        · have HTE : Hid (treeE ss = []) := hid (by unfold treeE; rw [if_neg (by rw [HTC.out]; exact hf)])
          have b2 : (fault (treeL ss) != 0) = true := by simpa using hf
          generalize hff : fault (treeL ss) = ff at *
          clear hff hf
          go_wp2
          refine bodyPost_ret (v := .agg #[.int .i64 ff, .int .i64 0, .slice none 0 0]) (by simp [results, Tryz.results8, go_sem, r0, r1, r2]) rfl ⟨⟨_, ret3 HTC.out.symm, ?_⟩, setB (setB (setB HB5.out (Nat.le_refl _) _) (Nat.le_refl _) _) (Nat.le_refl _) _⟩
          rw [HTE.out]
          exact EOwn.nil _ _
  · have HTC := hid (treeC_p hp)
    have HTE : Hid (treeE ss = []) := hid (by unfold treeE; rw [if_neg (by rw [HTC.out]; exact hp)])
    have b1 : (pFault ss != 0) = true := by simpa using hp
    have HB1 := hid B1
    generalize hpf : pFault ss = pf at *
    clear hpf hp B1
    go_wp2
    refine bodyPost_ret (v := .agg #[.int .i64 pf, .int .i64 0, .slice none 0 0]) (by simp [results, Tryz.results8, go_sem, u0, u1, u2]) rfl ⟨⟨_, ret3 HTC.out.symm, ?_⟩, setB (setB (setB HB1.out (Nat.le_refl _) _) (Nat.le_refl _) _) (Nat.le_refl _) _⟩
    rw [HTE.out]
    exact EOwn.nil _ _
end Tf
end Go.Proofs.YtgghigfflpbjiaaGreatDoor
