/- Laid together: PoD, Card5. -/
import Derived.Test.YtahkpgffoiaeiaaGreatDoorJProcOf47
import Derived.Test.YtahkpgffoiaeiaaGreatDoorJProcOf43
import Derived.Test.YtahkpgffoiaeiaaGreatDoorJProcOf21
import Derived.Test.YtahkpgffoiaeiaaGreatDoorAsA
import Derived.Test.YtahkpgffoiaeiaaGreatDoorJProcOf9
import Derived.Test.YtahkpgffoiaeiaaGreatDoorJProcOf11
import Derived.LaidSub
import Derived.LaidHandle
/- Steps are read from elements: the program's readSteps and ProcOf. -/
namespace Go.Proofs.YtahkpgffoiaeiaaGreatDoor
open Go.RowKit
set_option linter.unusedVariables false
namespace Po
open Ex (hid inR nvals parseF)
open Nd (NodeD)
open St (StepD)
open Tr (AttrD ElemD AttrsAt ElemsAt acode fault SmallE OkE)
open Nst (own)
open So (SOwn SJ scell)
open Pf (kindN tagC Rul implProcFault pFault)
theorem expr_small {x : ByteArray} {l : List NodeD} (h : exprF x = some l) : l.length ≤ 16 := by
  unfold exprF at h
  cases hp : parseF x.data.toList with
  | none => rw [hp] at h; simp at h
  | some t =>
    rw [hp] at h
    simp at h
    subst h
    rw [Ex.nodes_len]
    unfold parseF at hp
    split at hp
    · split at hp
      · rename_i hf
        simp at hp
        subst hp
        unfold Ex.Tm.fine at hf
        simp at hf
        exact hf.2
      · simp at hp
    · simp at hp
theorem putA_small {s t : StepD} {a : AttrD} (ha : a.value.size ≤ 40) (hs : St.Small1 40 s) (h : putA s a = some t) : St.Small1 40 t := by
  unfold putA at h
  split at h
  · simp at h; subst h; exact ⟨by simp; omega, hs.2⟩
  · split at h
    · cases hx : exprF a.value with
      | none => rw [hx] at h; simp at h
      | some l => rw [hx] at h; simp at h; subst h; exact ⟨hs.1, by have := expr_small hx; simp; omega, hs.2.2⟩
    · split at h
      · cases hx : exprF a.value with
        | none => rw [hx] at h; simp at h
        | some l => rw [hx] at h; simp at h; subst h; exact ⟨hs.1, hs.2.1, by have := expr_small hx; simp; omega⟩
      · cases hx : numF a.value.data.toList with
        | none => rw [hx] at h; simp at h
        | some n => rw [hx] at h; simp at h; subst h; exact hs
theorem putAll_small : ∀ {l : List AttrD} {s t : StepD}, (∀ a ∈ l, a.value.size ≤ 40) → St.Small1 40 s → putAll s l = some t → St.Small1 40 t
  | [], s, t, _, hs, h => by rw [putAll] at h; simp at h; subst h; exact hs
  | a :: r, s, t, hl, hs, h => by
    rw [putAll] at h
    cases hp : putA s a with
    | none => rw [hp] at h; simp at h
    | some x => rw [hp] at h; exact putAll_small (fun b hb => hl b (List.mem_cons_of_mem _ hb)) (putA_small (hl a (List.mem_cons_self ..)) hs hp) h
theorem step_small {e : ElemD} (hc : acode e.attrs = 0) : St.Small1 40 (stepS e) := by
  have h0 : St.Small1 40 (step0 e) := ⟨by simp [step0], by simp [step0], by simp [step0]⟩
  unfold stepS
  cases h : putAll (step0 e) e.attrs with
  | none => exact h0
  | some t => exact putAll_small (fun a ha => (acode_pre e.attrs [] hc a ha).2) h0 h
theorem steps_small {es : List ElemD} (h : fault es = 0) : St.Small 1048576 (es.map stepS) := by
  refine ⟨by have := (fault_len h).2; simp; omega, fun s hs => ?_⟩
  obtain ⟨e, he, rfl⟩ := List.mem_map.1 hs
  exact (step_small (fault_at h he).1).mono (by omega)
theorem map_snoc {es : List ElemD} {j : Nat} (h : j < es.length) : (es.take (j + 1)).map stepS = (es.take j).map stepS ++ [stepS es[j]] := by
  rw [← List.take_append_getElem h, List.map_append]; rfl
/-- What reading steps answers. -/
def ReadPost (es : List ElemD) (w : World) (e : Ending) (w' : World) : Prop :=
  ((procC es ≠ 0 ∧ e = .returned (.tuple #[.slice none 0 0, .iface 56 (.agg #[.int .i64 (procC es)])]))
    ∨ (procC es = 0 ∧ ∃ a n c, e = .returned (.tuple #[.slice a n c, .nilIface]) ∧ SOwn w' w.heap.size (.slice a n c) (es.map stepS)))
  ∧ Below w.heap.size w w'
set_option maxRecDepth 100000 in
set_option maxHeartbeats 8000000 in
theorem implSteps (es : List ElemD) (v : Value) (w : World) (hsm : SmallE 1048576 es) (hok : OkE es) (ha : ElemsAt w 0 v es) (hr : Rul w) (he : Esc.Ent w) (hw : 2 < w.heap.size) :
    Calls Tryz.prog 18 #[v] w (ReadPost es w) := by
  have HF := hid (Tr.implFault es v w hsm hok ha he hw)
  obtain ⟨a, cap, rfl⟩ := ha.slice
  have HA := hid ha
  have HR := hid hr
  obtain ⟨j0, hj, hy0, hy1, hy2⟩ := info_parts So.infoStep
  clear ha hr he hsm hok hw
  unfold ReadPost
  go_enter Tryz.func18, Tryz.ntmps18
  go_wp2_with fail
  refine HF.out.mono ?_
  rintro e w1 ⟨rfl, hb1⟩
  have HB1 := hid hb1
  clear hb1 HF
  by_cases hf : fault es = 0
  · have h40 := (fault_len hf).2
    have HFA : Hid (∀ e ∈ es, acode e.attrs = 0 ∧ e.attrs.length ≤ 6) := hid (fun e he => fault_at hf he)
    have HSMP := hid (steps_small hf)
    have HF0 := hid hf
    rw [hf]
    clear hf
    go_wp2_with fail
    go_loopw [5, 20] (fun pv i wr => ∃ (j : Nat), i = .int .i64 j ∧ j ≤ es.length ∧ (∃ a7 n7 c7, pv = .slice a7 n7 c7) ∧ Hid (∀ x (hx : x < es.length), x < j → stepC es[x] = 0) ∧ Hid (SOwn wr w.heap.size pv ((es.take j).map stepS)) ∧ Hid (Below w.heap.size w wr)) (fun _ i _ => es.length - (intOf i).toNat)
    case atStart => exact ⟨0, rfl, Nat.zero_le _, ⟨_, _, _, rfl⟩, hid (fun x _ h => by omega), hid (SOwn.nil _ _), HB1⟩
    case round =>
      obtain ⟨j, rfl, hjl, ⟨a7, n7, c7, rfl⟩, HZ, HO, HB⟩ := hrel
      by_cases hlt : j < es.length
      · have q1 : (j : Int) < (es.length : Int) := by omega
        obtain ⟨g, o, va, rfl, hg, c0, c1, c2, hva⟩ := (HA.out.below HB.out).at hlt
        obtain ⟨av, cv, rfl⟩ := hva.slice
        have hb2 : Below wr.heap.size wr (wr.alloc (.cells #[.string es[j].tag, .int .i64 es[j].parent, .slice av es[j].attrs.length cv] 48)) := (Below.refl _ wr).alloc (Nat.le_refl _) _
        have HB2 := hid hb2
        have HBW2 := hid (HB.out.trans (hb2.mono HB.out.size))
        have HST := hid (implStep 0 es[j] _ _ (HFA.out _ (List.getElem_mem hlt)).1 (HFA.out _ (List.getElem_mem hlt)).2 (hva.below hb2) (HR.out.below HBW2.out HR.out.lt))
        have HTS := hid (map_snoc hlt)
        have HPS := hid (fun (hc : stepC es[j] ≠ 0) => proc_step HF0.out hlt hc HZ.out)
        have HZ2 : Hid (stepC es[j] = 0 → ∀ x (hx : x < es.length), x < j + 1 → stepC es[x] = 0) := hid (fun hc x hx h => by
          by_cases e : x = j
          · subst e; exact hc
          · exact HZ.out x hx (by omega))
        have htl : ((es.take j).map stepS).length ≤ 40 := by simp; omega
        generalize es[j] = ej at *
        generalize htr : (es.take j).map stepS = tr at *
        clear hva hb2 htr
        go_wp2_with fail
        refine HST.out.mono ?_
        rintro e w3 ⟨hd, hb3⟩
        have HB3 := hid (HB2.out.trans (hb3.mono HB2.out.size))
        clear hb3 HST
        rcases hd with ⟨h1, rfl⟩ | ⟨h1, vc, ve, rfl, h2, h3, h4⟩
        · have HPX := hid (HPS.out h1)
          have HC1 := hid h1
          clear h1
          go_wp2
          go_ret2
          exact ⟨.inl ⟨by rw [HPX.out.1]; exact HC1.out, by rw [HPX.out.1]; rfl⟩, ((HB.out.trans (HB3.out.mono HB.out.size)).alloc (by have := HB.out.size; have := HB3.out.size; omega) _)⟩
        · have HZ3 := hid (HZ2.out h1)
          obtain ⟨ac, cc, rfl⟩ := Nst.own_slice h2
          obtain ⟨ae, ce, rfl⟩ := Nst.own_slice h3
          have HN2 := hid h2
          have HN3 := hid h3
          have HN4 := hid h4
          obtain ⟨C, E, hF⟩ := HO.out
          have HEF := hid hF
          have HRW := hid (Nst.own_kept hF.row (fun b hb => HB3.out.block b (Nst.own_lt hF.row hb).2))
          have l3 := HB3.out.size
          have lw := HB.out.size
          have hn7 : n7 = tr.length := by
            obtain ⟨a', c', e'⟩ := Nst.own_slice hF.row
            cases e'; rfl
          subst hn7
          clear h1 h2 h3 h4 hF HO
          generalize stepS ej = sj at *
          go_wp2_with (at_builtin; go_must (refine wpList_append_own_at _ rfl _ _ 24 rfl w.heap.size 42 j0 (.agg #[.int .i64 0, .int .i64 0, .string ⟨#[]⟩, .int .i64 0, .slice none 0 0, .slice none 0 0]) 6 88 Tryz.underlying24 hj hy0 hy1 hy2 rfl (by decide) _ _ _ rfl ((HRW.out.alloc _).alloc _) ⟨w3.heap.size + 1, 0, none⟩ 1 1 [.int .i64 sj.kind, .int .i64 sj.parent, .string sj.name, .int .i64 sj.arg, .slice ac sj.cond.length cc, .slice ae sj.expr.length ce] rfl rfl (So.news #[.int .i64 sj.kind, .int .i64 sj.parent, .string sj.name, .int .i64 sj.arg, .slice ac sj.cond.length cc, .slice ae sj.expr.length ce] _ _ (by simp)) (by simp [Value.oneCell']) (by unfold maxLen; omega) (by omega) (by simp; omega) ?_); intro v9 w9 hown9 hg9 _ hat9; obtain ⟨a9, c9, rfl⟩ := Nst.own_slice hown9)
          have hx4 : Below w3.heap.size w3 ((w3.alloc (.cells #[.int .i64 sj.kind, .int .i64 sj.parent, .string sj.name, .int .i64 sj.arg, .slice ac sj.cond.length cc, .slice ae sj.expr.length ce] 42)).alloc (.cells #[.int .i64 sj.kind, .int .i64 sj.parent, .string sj.name, .int .i64 sj.arg, .slice ac sj.cond.length cc, .slice ae sj.expr.length ce] 42)) := ((Below.refl _ w3).alloc (Nat.le_refl _) _).alloc (by simp) _
          have HO9 : Hid (SOwn w9 w.heap.size (.slice a9 (tr.length + 1) c9) (tr ++ [sj])) := hid (So.push_at HEF.out lw (fun b _ hb => (HB3.out.trans (hx4.mono HB3.out.size)).block b hb) (by simp; omega) (Nst.own_mono ((HN2.out.alloc _).alloc _) (by simp)) (Nst.own_mono ((HN3.out.alloc _).alloc _) (by simp)) HN4.out hown9 hg9 hat9)
          have HB9 : Hid (Below w.heap.size w w9) := hid (((HB.out.trans (HB3.out.mono lw)).trans (hx4.mono (by omega))).grown hg9 (by simp; omega) (fun b e => (Nst.own_lt HRW.out e).1))
          clear hown9 hg9 hat9 hx4
          go_wp2
          exact ⟨⟨j + 1, by simp, by omega, ⟨_, _, _, rfl⟩, HZ3, hid (by rw [HTS.out]; exact HO9.out), HB9⟩, by simp [intOf]; omega⟩
      · have q1 : ¬ (j : Int) < (es.length : Int) := by omega
        have hjn : j = es.length := by omega
        have HO1 : Hid (SOwn wr w.heap.size (.slice a7 n7 c7) (es.map stepS)) := hid (by
          have := HO.out
          rw [hjn, List.take_length] at this
          exact this)
        have HPA := hid (proc_all HF0.out (fun x hx => HZ.out x hx (by omega)))
        have HPF := hid (implProcFault (es.map stepS) _ wr HSMP.out (HO1.out.steps.mono (Nat.zero_le _)) (HR.out.below HB.out HR.out.lt))
        clear HO hjn
        generalize htre : es.map stepS = tr at *
        have HTRE := hid htre
        clear htre
        go_wp2_with fail
        refine HPF.out.mono ?_
        rintro e w5 ⟨rfl, hb5⟩
        have HB5 := hid (HB.out.trans (hb5.mono HB.out.size))
        have HO5 := hid (HO1.out.below hb5)
        clear hb5 HPF
        by_cases hp : pFault tr = 0
        · have HP0 : Hid (procC es = 0) := hid (HPA.out.trans hp)
          rw [hp]
          clear hp
          go_wp2
          go_ret2
          exact ⟨.inr ⟨HP0.out, _, _, _, rfl, by rw [HTRE.out]; exact HO5.out⟩, HB5.out⟩
        · have HP0 := hid hp
          have b2 : (pFault tr != 0) = true := by simpa using hp
          generalize hff : pFault tr = pf at *
          clear hff hp
          go_wp2
          go_ret2
          exact ⟨.inl ⟨by rw [HPA.out]; exact HP0.out, by rw [HPA.out]; rfl⟩, HB5.out⟩
  · have HPF := hid (proc_fault hf)
    have hne : (fault es != 0) = true := by simpa using hf
    have HF0 := hid hf
    generalize hff : fault es = ff at *
    clear hff hf
    go_wp2
    go_ret2
    exact ⟨.inl ⟨by rw [HPF.out.1]; exact HF0.out, by rw [HPF.out.1]; rfl⟩, HB1.out⟩
/-- The variable errors.errorType holds the handle of error. -/
def ErrT (w : World) : Prop := w.cell? ⟨0, 0, none⟩ = some (.iface 127 (.agg #[Er.hd 52]))
theorem ErrT.below {w w' : World} {B : Nat} (h : ErrT w) (hb : Below B w w') (hB : 0 < B) : ErrT w' := kept_cell hb hB h
theorem ErrT.lt {w : World} (h : ErrT w) : 0 < w.heap.size := Nd.lt_of_cell h
theorem as_facts (w : World) (c : Int) : Below w.heap.size w (Er.asW (w.alloc (.cells #[.int .i64 0] 56)) ⟨w.heap.size, 0, none⟩ c) ∧ (Er.asW (w.alloc (.cells #[.int .i64 0] 56)) ⟨w.heap.size, 0, none⟩ c).cell? ⟨w.heap.size, 0, none⟩ = some (.int .i64 c) := by
  have hb0 : Below w.heap.size w (w.alloc (.cells #[.int .i64 0] 56)) := (Below.refl _ w).alloc (Nat.le_refl _) _
  have hbl := heap_alloc_new w (.cells #[.int .i64 0] 56)
  have hlt : w.heap.size < (w.alloc (.cells #[.int .i64 0] 56)).heap.size := by simp
  generalize w.alloc (.cells #[.int .i64 0] 56) = w2 at *
  unfold Er.asW
  have h1 : Below w2.heap.size w2 ((((w2.alloc (.cells #[.pointer (some ⟨w.heap.size, 0, none⟩)] 58)).alloc (.cells #[Er.hd 58, .pointer (some ⟨w2.heap.size, 0, none⟩), .int .u64 150] 85)).alloc (.cells #[Er.hd 58, .pointer (some ⟨w2.heap.size, 0, none⟩), .int .u64 150] 85)).alloc (.cells #[.int .i64 c] 56)) :=
    ((((Below.refl _ w2).alloc (Nat.le_refl _) _).alloc (by simp) _).alloc (by simp; omega) _).alloc (by simp; omega) _
  generalize ((((w2.alloc (.cells #[.pointer (some ⟨w.heap.size, 0, none⟩)] 58)).alloc (.cells #[Er.hd 58, .pointer (some ⟨w2.heap.size, 0, none⟩), .int .u64 150] 85)).alloc (.cells #[Er.hd 58, .pointer (some ⟨w2.heap.size, 0, none⟩), .int .u64 150] 85)).alloc (.cells #[.int .i64 c] 56)) = w3 at *
  exact ⟨(hb0.trans (h1.mono hb0.size)).setCell (p := ⟨w.heap.size, 0, none⟩) (Nat.le_refl _) _, blk_cell (blk_set ((h1.block _ hlt).trans hbl) _) 0⟩
set_option maxRecDepth 100000 in
set_option maxHeartbeats 8000000 in
theorem implProcOf (es : List ElemD) (v : Value) (w : World) (hsm : SmallE 1048576 es) (hok : OkE es) (ha : ElemsAt w 0 v es) (hr : Rul w) (he : Esc.Ent w) (hw : 2 < w.heap.size) (ht : ErrT w) :
    Calls Tryz.prog 7 #[v] w fun e w' => (∃ u, e = .returned (.agg #[.int .i64 (procC es), u]) ∧ SOwn w' w.heap.size u (procS es)) ∧ Below w.heap.size w w' := by
  obtain ⟨a, cap, rfl⟩ := ha.slice
  have hb0 : Below w.heap.size w (w.alloc (.cells #[.int .i64 0, .slice none 0 0] 26)) := (Below.refl _ w).alloc (Nat.le_refl _) _
  have HS := hid (implSteps es _ (w.alloc (.cells #[.int .i64 0, .slice none 0 0] 26)) hsm hok (ha.below hb0) (hr.below hb0 hr.lt) (Esc.Ent.below he hb0 hw) (by simp; omega))
  have HT := hid ht
  have HB0 := hid hb0
  clear ha hr he hsm hok hw ht hb0
  go_enter Tryz.func7, Tryz.ntmps7
  go_wp2_with fail
  refine HS.out.mono ?_
  rintro e w1 ⟨hd, hb1⟩
  have HB1 : Hid (Below w.heap.size w w1) := hid (HB0.out.trans (hb1.mono HB0.out.size))
  have hrb : w1.heap[w.heap.size]? = some (.cells #[.int .i64 0, .slice none 0 0] 26) := (hb1.block _ (by simp)).trans (heap_alloc_new w _)
  have l1 : w.heap.size < w1.heap.size := by have := hb1.size; simp at this; omega
  have HRB := hid hrb
  clear hrb
  have HT1 := hid (HT.out.below HB1.out HT.out.lt)
  have HW2 : Hid (Below w1.heap.size w1 (w1.alloc (.cells #[.int .i64 0] 56))) := hid ((Below.refl _ w1).alloc (Nat.le_refl _) _)
  rcases hd with ⟨h1, rfl⟩ | ⟨h1, a5, n5, c5, rfl, h2⟩
  · have HPC : Hid (procS es = []) := hid (by unfold procS; rw [if_neg h1])
    have HAS := hid (Er.asHit (procC es) ⟨w1.heap.size, 0, none⟩ (.int .i64 0) (w1.alloc (.cells #[.int .i64 0] 56)) (HT1.out.below HW2.out HT1.out.lt) (by simp) (by simp))
    have HFA := hid (as_facts w1 (procC es))
    clear h1 hb1 HS
    generalize hpc : procC es = c at *
    have HPCC := hid hpc
    clear hpc
    go_wp2_with fail
    refine HAS.out.mono ?_
    rintro e w3 ⟨rfl, hw3⟩
    obtain ⟨hb3, y0⟩ := HFA.out
    rw [← hw3] at hb3 y0
    have HB3 := hid hb3
    have hr3 : w3.heap[w.heap.size]? = _ := (hb3.block _ l1).trans HRB.out
    have r0 : w3.cell? ⟨w.heap.size, 0, none⟩ = some (.int .i64 0) := blk_cell hr3 0
    have r1 : w3.cell? ⟨w.heap.size, 1, none⟩ = some (.slice none 0 0) := blk_cell hr3 1
    have f0 := blk_free hr3 0
    have f1 := blk_free hr3 1
    clear hw3 HAS hb3 hr3 HFA
    go_wp2
    refine bodyPost_ret (v := .agg #[.int .i64 c, .slice none 0 0]) (by simp [results, Tryz.results7, go_sem, r0, r1]) rfl ⟨⟨_, by rw [HPCC.out], by rw [HPC.out]; exact SOwn.nil _ _⟩, ((HB1.out.trans (HB3.out.mono HB1.out.size)).setCell (p := ⟨w.heap.size, 0, none⟩) (Nat.le_refl _) _).setCell (p := ⟨w.heap.size, 1, none⟩) (Nat.le_refl _) _⟩
  · have HPS : Hid (procS es = es.map stepS) := hid (by unfold procS; rw [if_pos h1])
    have HP0 := hid h1
    have HO := hid (h2.below HW2.out)
    have hx : (w.alloc (.cells #[.int .i64 0, .slice none 0 0] 26)).heap.size = w.heap.size + 1 := by simp
    have hr3 : (w1.alloc (.cells #[.int .i64 0] 56)).heap[w.heap.size]? = _ := (HW2.out.block _ l1).trans HRB.out
    have r0 : (w1.alloc (.cells #[.int .i64 0] 56)).cell? ⟨w.heap.size, 0, none⟩ = some (.int .i64 0) := blk_cell hr3 0
    have r1 : (w1.alloc (.cells #[.int .i64 0] 56)).cell? ⟨w.heap.size, 1, none⟩ = some (.slice none 0 0) := blk_cell hr3 1
    have f0 := blk_free hr3 0
    have f1 := blk_free hr3 1
    rw [hx] at HO
    clear h1 h2 hb1 HS hx hr3
    have HBB := hid (HB1.out.trans (HW2.out.mono HB1.out.size))
    have HAN := hid (Er.asNil (.iface 58 (.pointer (some ⟨w1.heap.size, 0, none⟩))) (w1.alloc (.cells #[.int .i64 0] 56)))
    go_wp2_with fail
    refine HAN.out.mono ?_
    rintro e w3 ⟨rfl, rfl⟩
    generalize w1.alloc (.cells #[.int .i64 0] 56) = w4 at *
    go_wp2
    refine bodyPost_ret (v := .agg #[.int .i64 0, .slice a5 n5 c5]) (by simp [results, Tryz.results7, go_sem, r0, r1]) rfl ⟨⟨_, by rw [HP0.out], ?_⟩, (HBB.out.setCell (p := ⟨w.heap.size, 0, none⟩) (Nat.le_refl _) _).setCell (p := ⟨w.heap.size, 1, none⟩) (Nat.le_refl _) _⟩
    rw [HPS.out]
    exact (HO.out.keep (fun b h1 _ => by
      rw [Below.heap_setCell _ _ _ _ (by dsimp only; omega), Below.heap_setCell _ _ _ _ (by dsimp only; omega)])).mono (Nat.le_succ _)
end Po
end Go.Proofs.YtahkpgffoiaeiaaGreatDoor
/- From a row's list of laid tables to the tables of rules and of entities and to the handle of the type error; a world that holds them. -/
namespace Go.Proofs.YtahkpgffoiaeiaaGreatDoor
open Go.ChangeShapes Go.WideShapes Go.ChangeAt Go.RowKit
set_option linter.unusedVariables false
namespace Crd5
open Esc (Ent entVals entArr)
open Pf (Rul ruleVals)
theorem ent_lt {w : World} (h : Ent w) : 2 < w.heap.size := by
  have h0 := h 0 (by decide)
  rcases Nat.lt_or_ge 2 w.heap.size with h1 | h1
  · exact h1
  · simp [World.cell?, Array.getElem?_eq_none h1, entVals] at h0
theorem gTab : Tryz.prog.globalNamed "loop.example/g00343/impl.entities" = some 2 := by kernel_rfl
theorem gTabType : (Tryz.prog.globals[2]?).map (·.type) = some 217 := by kernel_rfl
theorem cellsTA : Tryz.prog.cellsOf 217 = 15 := by kernel_rfl
theorem cellsTE : Tryz.prog.cellsOf 216 = 3 := by kernel_rfl
theorem cells9 : Tryz.prog.cellsOf 9 = 1 := by kernel_rfl
theorem cells5 : Tryz.prog.cellsOf 5 = 1 := by kernel_rfl
theorem cells4 : Tryz.prog.cellsOf 4 = 1 := by kernel_rfl
set_option maxRecDepth 100000 in
/-- One row of the table: its three cells. -/
theorem entity {H : Type} {enc : TypeId × Value → H} {w : World} {base : Nat} {sp : Nat → Bool} {held : Bool} {fuel : Nat} {cs : List Value} {l : List UInt8} {z : Int} {b : Bool} {p : List MemPlace}
    (h : DataW.trod enc Tryz.prog w base sp held fuel 216 cs = some (.agg [.lit (.string l), .lit (.int .u8 z), .lit (.bool b)], p)) :
    cs = [.string ⟨l.toArray⟩, .int .u8 z, .bool b] := by
  obtain ⟨xs, n, rfl, hx, hlen, hxl, hf⟩ := DataW.trod_struct Tryz.underlying216 h
  have h0 := hf 0 _ rfl
  have h1 := hf 1 _ rfl
  have h2 := hf 2 _ rfl
  rw [cellsTE] at hlen
  match cs, hlen with
  | [a, b', c], _ =>
    match xs, hxl with
    | [x0, x1, x2], _ =>
      simp at h0 h1 h2 hx
      obtain ⟨s0, e0, f0, _⟩ := DataW.trod_string Tryz.underlying9 h0
      obtain ⟨n1, e1, f1, _⟩ := DataW.trod_int Tryz.underlying5 h1
      obtain ⟨b2, e2, f2⟩ := DataW.trod_bool Tryz.underlying4 h2
      subst f0 f1 f2
      rw [cells9] at e0
      rw [cells5] at e1
      rw [cells4] at e2
      simp at e0 e1 e2 hx
      obtain ⟨⟨g0, g1, g2⟩, _⟩ := hx
      subst e0 e1 e2 g1 g2
      rw [g0]
set_option maxRecDepth 100000 in
theorem var_ent {W : World} (h : laidMetH Tryz.prog [("loop.example/g00343/impl.entities", Rows.laid_loop_example_g00343_impl_entities)] W) : ∃ cs, W.var? Tryz.prog "loop.example/g00343/impl.entities" = some cs ∧ cs.toList = entVals := by
  obtain ⟨ps, ⟨g', t', cs, fuel, p, q, hg', ht', hvar, hd, _, _⟩, _⟩ := h
  obtain rfl := Option.some.inj (gTab.symm.trans hg')
  obtain rfl := Option.some.inj (gTabType.symm.trans ht')
  refine ⟨cs, hvar, ?_⟩
  obtain ⟨xs, m, rfl, hx, hlen, hxl, hf⟩ := DataW.trod_array Tryz.underlying217 hd
  have f0 := hf 0 (by decide)
  have f1 := hf 1 (by decide)
  have f2 := hf 2 (by decide)
  have f3 := hf 3 (by decide)
  have f4 := hf 4 (by decide)
  rw [cellsTE] at f0 f1 f2 f3 f4
  rw [cellsTA] at hlen
  match xs, hxl with
  | [x0, x1, x2, x3, x4], _ =>
    obtain ⟨d0, p0⟩ := x0
    obtain ⟨d1, p1⟩ := x1
    obtain ⟨d2, p2⟩ := x2
    obtain ⟨d3, p3⟩ := x3
    obtain ⟨d4, p4⟩ := x4
    simp only [Rows.laid_loop_example_g00343_impl_entities, List.map_cons, List.map_nil, Prod.mk.injEq, DataW.agg.injEq, List.cons.injEq, and_true] at hx
    obtain ⟨⟨rfl, rfl, rfl, rfl, rfl⟩, _⟩ := hx
    generalize cs.toList = l at *
    have g0 := entity f0
    have g1 := entity f1
    have g2 := entity f2
    have g3 := entity f3
    have g4 := entity f4
    have hl : l = (l.drop 0).take 3 ++ ((l.drop 3).take 3 ++ ((l.drop 6).take 3 ++ ((l.drop 9).take 3 ++ (l.drop 12).take 3))) := by
      match l, hlen with
      | [a0, a1, a2, a3, a4, a5, a6, a7, a8, a9, a10, a11, a12, a13, a14], _ => rfl
    rw [hl]
    simp only [Nat.reduceMul] at g0 g1 g2 g3 g4
    rw [g0, g1, g2, g3, g4]
    rfl
set_option maxRecDepth 100000 in
theorem ent_of {W : World} (h : laidMetH Tryz.prog [("loop.example/g00343/impl.entities", Rows.laid_loop_example_g00343_impl_entities)] W) : Ent W := by
  obtain ⟨cs, hv, hcs⟩ := var_ent h
  intro i hi
  rw [World.var?_cell gTab hv i, ← hcs]
  simp
def isEnt (x : String × DataW Unit) : Bool := x.1 == "loop.example/g00343/impl.entities"
theorem ent_in {W : World} {l : List (String × DataW Unit)} (h : laidMetH Tryz.prog l W) (hl : l.filter isEnt = [("loop.example/g00343/impl.entities", Rows.laid_loop_example_g00343_impl_entities)]) : Ent W := by
  have h1 := h.filter isEnt
  rw [hl] at h1
  exact ent_of h1
def isRul (x : String × DataW Unit) : Bool := x.1 == "loop.example/g00343/impl.stepRules"
theorem rul_in {W : World} {l : List (String × DataW Unit)} (h : laidMetH Tryz.prog l W) (hl : l.filter isRul = [("loop.example/g00343/impl.stepRules", Rows.laid_loop_example_g00343_impl_stepRules)]) : Rul W := by
  have h1 := h.filter isRul
  rw [hl] at h1
  exact Crd.rul_of h1
theorem et : Tryz.prog.globalNamed "errors.errorType" = some 0 := by kernel_rfl
theorem rt : (Tryz.prog.cutTypes.find? (·.1 == "internal/reflectlite.rtype")).map (·.2) = some 127 := by kernel_rfl
theorem oneRow : ((List.range 289).filter fun t => Tryz.prog.rowNamed t [101, 114, 114, 111, 114]) = [52] := by kernel_rfl
theorem size : Tryz.prog.types.size = 289 := by kernel_rfl
def isErr (x : String × DataW Unit) : Bool := x.1 == "errors.errorType"
theorem err_in {W : World} {l : List (String × DataW Unit)} (h : laidMetH Tryz.prog l W) (hl : l.filter isErr = [("errors.errorType", Rows.laid_errors_errorType)]) : Po.ErrT W := by
  have h1 := h.filter isErr
  rw [hl] at h1
  have h' : laidMet Tryz.prog [] W ∧ handlesMet Tryz.prog [("errors.errorType", Rows.laid_errors_errorType)] W := h1
  obtain ⟨name, u, ty, e1, e2, e3, e4, e5⟩ := h'.2 _ (List.mem_singleton.2 rfl)
  have en : name = [101, 114, 114, 111, 114] := (Option.some.inj e1).symm
  subst en
  obtain rfl := Option.some.inj (rt.symm.trans e2)
  have hm : ty ∈ (List.range 289).filter fun t => Tryz.prog.rowNamed t [101, 114, 114, 111, 114] := List.mem_filter.2 ⟨List.mem_range.2 (by rw [← size]; exact e3), e4⟩
  rw [oneRow] at hm
  obtain rfl := List.mem_singleton.1 hm
  have hh : typeHandle Tryz.prog 52 = Er.hd 52 := by kernel_rfl
  rw [hh] at e5
  have h0 := World.var?_cell et e5 0
  unfold Po.ErrT
  simpa using h0
def one : DataW Unit → Value
  | .lit (.int k z) => .int k z
  | _ => .bool false
def flat1 : DataW Unit → List Value
  | .agg l => l.map one
  | _ => []
def flat2 : DataW Unit → List Value
  | .agg l => l.flatMap flat1
  | _ => []
def put (a : List Value) : Obj → Obj
  | .cells _ t frozen => .cells a.toArray t frozen
  | o => o
/-- A world for the witness: the settled one, the tables holding what their initialisers lay. -/
def laidHeap (h0 : Array Obj) : Array Obj :=
  let h1 := h0.modify 1 (put ruleVals)
  let h2 := h1.modify 2 (put entVals)
  let h3 := h2.modify 0 (put [.iface 127 (.agg #[Er.hd 52])])
  let h4 := h3.modify 4 (put (flat2 Rows.laid_unicode_utf8_acceptRanges))
  h4.modify 3 (put (flat1 Rows.laid_unicode_utf8_first))
def laidOver (w : World) : World := { w with heap := laidHeap w.heap }
end Crd5
end Go.Proofs.YtahkpgffoiaeiaaGreatDoor
