/- Laid together: GpE, GpF, GqE. -/
import Derived.Test.YtfgckeoigkoflaaGreatDoorJGraphOf19
import Derived.Test.YtfgckeoigkoflaaGreatDoorJGraphOf17
import Derived.Test.YtfgckeoigkoflaaGreatDoorJGraphOf37
import Derived.Test.YtfgckeoigkoflaaGreatDoorJGraphOf42
/- The flows of a drawn process stand in order: every step. -/
namespace Go.Proofs.YtfgckeoigkoflaaGreatDoor
set_option linter.unusedVariables false
namespace Gr
open Nd (NodeD)
open Gn (GNodeD)
open Fl (FlowD)
open St (StepD)
open Pf (PJ PJ_eq kidsL pFault manyOk)
theorem seqN_ord {dr : GraphD → Nat → Drawn} {ks : List Nat} {g : GraphD} (hg : Good g) (H : ∀ g, Good g → ∀ m, m < ks.length → Ord g (dr g (ks.getD m 0)).1 (dr g (ks.getD m 0)).2.1 (dr g (ks.getD m 0)).2.2) {g0 : GraphD} {i o : Nat} (h0 : Ord g g0 i o) : ∀ m, m + 1 ≤ ks.length → Ord g (seqN dr ks g0 o m).1 i (seqN dr ks g0 o m).2
  | 0, _ => h0
  | m + 1, hm => by
    have ih := seqN_ord hg H h0 m (by omega)
    exact seq_ord hg ih (H _ (ih.good hg) (m + 1) (by omega)) []
structure MI (g gm : GraphD) (outs : List Nat) : Prop where
  lt : g.nodes.length < gm.nodes.length
  srt : Srt gm.flows
  fl : ∀ y ∈ gm.flows, y ∈ g.flows ∨ ((g.nodes.length : Int) ≤ y.src ∧ y.src < (gm.nodes.length : Int) ∧ (∀ o ∈ outs, y.src ≠ ((o : Nat) : Int)) ∧ (g.nodes.length : Int) ≤ y.dst ∧ y.dst < (gm.nodes.length : Int))
  ob : ∀ o ∈ outs, g.nodes.length < o ∧ o < gm.nodes.length
  nd : outs.Nodup
theorem MI.good {g gm : GraphD} {outs : List Nat} (h : MI g gm outs) (hg : Good g) : Good gm := ⟨h.srt, fun y hy => by
  have := h.lt
  rcases h.fl y hy with e | ⟨e1, e2, e3, e4, e5⟩
  · have := hg.bd y e; omega
  · omega⟩
theorem MI.step {g gm g' : GraphD} {outs : List Nat} {i o : Nat} (h : MI g gm outs) (hg : Good g) (h2 : Ord gm g' i o) (c : List NodeD) : MI g (addF g' ⟨(g.nodes.length : Int), (i : Int), c⟩) (outs ++ [o]) := by
  have a1 := h.lt; have b1 := h2.lt; have b2 := h2.o1; have b3 := h2.o2; have b4 := h2.i
  refine ⟨?_, ?_, ?_, ?_, ?_⟩
  · rw [addF_n]; omega
  · refine link_srt h2.srt (fun y hy e => ?_)
    simp only at e ⊢
    rcases h2.fl y hy with q | q
    · rcases h.fl y q with q | ⟨e1, e2, e3, e4, e5⟩
      · have := hg.bd y q; omega
      · omega
    · unfold Hi at q; omega
  · intro y hy
    rw [addF_n]
    rcases link_mem.1 hy with e | hy
    · subst e
      refine .inr ⟨by simp only; omega, by simp only; omega, fun p hp => ?_, by simp only; omega, by simp only; omega⟩
      simp only
      rcases List.mem_append.1 hp with hp | hp
      · have := h.ob p hp; omega
      · obtain rfl := List.mem_singleton.1 hp
        omega
    · rcases h2.fl y hy with q | q
      · rcases h.fl y q with q | ⟨e1, e2, e3, e4, e5⟩
        · exact .inl q
        · refine .inr ⟨e1, by omega, fun p hp => ?_, e4, by omega⟩
          rcases List.mem_append.1 hp with hp | hp
          · exact e3 p hp
          · obtain rfl := List.mem_singleton.1 hp
            omega
      · unfold Hi at q
        refine .inr ⟨by omega, by omega, fun p hp => ?_, by omega, by omega⟩
        rcases List.mem_append.1 hp with hp | hp
        · have := h.ob p hp; omega
        · obtain rfl := List.mem_singleton.1 hp
          exact q.2.2.1
  · intro p hp
    rw [addF_n]
    rcases List.mem_append.1 hp with hp | hp
    · have := h.ob p hp; omega
    · obtain rfl := List.mem_singleton.1 hp
      omega
  · refine List.nodup_append.2 ⟨h.nd, by simp, fun p hp q hq e => ?_⟩
    obtain rfl := List.mem_singleton.1 hq
    have := h.ob p hp
    omega
theorem manyN_mi {dr : GraphD → Nat → Drawn} {ss : List StepD} {ks : List Nat} {g : GraphD} (hg : Good g) (H : ∀ g, Good g → ∀ m, m < ks.length → Ord g (dr g (ks.getD m 0)).1 (dr g (ks.getD m 0)).2.1 (dr g (ks.getD m 0)).2.2) (x : GNodeD) : ∀ m, m ≤ ks.length → MI g (manyN dr ss g.nodes.length ks (addN g x) m).1 (manyN dr ss g.nodes.length ks (addN g x) m).2
  | 0, _ => ⟨by show _ < (addN g x).nodes.length; rw [addN_n]; omega, hg.srt, fun y hy => .inl hy, (fun o ho => by cases ho), List.nodup_nil⟩
  | m + 1, hm => by
    have ih := manyN_mi (ss := ss) hg H x m (by omega)
    exact ih.step hg (H _ (ih.good hg) m (by omega)) _
theorem joinN_mem {outs : List Nat} {b : Nat} {g : GraphD} {y : FlowD} : ∀ m, y ∈ (joinN outs b g m).flows ↔ y ∈ g.flows ∨ ∃ j, j < m ∧ y = ⟨((outs.getD j 0 : Nat) : Int), (b : Int), []⟩
  | 0 => by simp [joinN]
  | m + 1 => by
    have ih := joinN_mem (outs := outs) (b := b) (g := g) (y := y) m
    show y ∈ linkL _ _ ↔ _
    rw [link_mem, ih]
    constructor
    · rintro (h | h | ⟨j, hj, h⟩)
      · exact .inr ⟨m, by omega, h⟩
      · exact .inl h
      · exact .inr ⟨j, by omega, h⟩
    · rintro (h | ⟨j, hj, h⟩)
      · exact .inr (.inl h)
      · by_cases e : j = m
        · subst e; exact .inl h
        · exact .inr (.inr ⟨j, by omega, h⟩)
theorem joinN_srt {outs : List Nat} {b : Nat} {g : GraphD} (hs : Srt g.flows) (hno : ∀ y ∈ g.flows, ∀ o ∈ outs, y.src ≠ ((o : Nat) : Int)) (hnd : outs.Nodup) : ∀ m, m ≤ outs.length → Srt (joinN outs b g m).flows
  | 0, _ => hs
  | m + 1, hm => by
    have ih := joinN_srt (b := b) hs hno hnd m (by omega)
    refine link_srt ih (fun y hy e => ?_)
    simp only at e
    rw [gd (show m < outs.length by omega)] at e
    rcases (joinN_mem m).1 hy with q | ⟨j, hj, q⟩
    · exact absurd e (hno y q _ (List.getElem_mem (by omega)))
    · subst q
      simp only at e
      rw [gd (show j < outs.length by omega)] at e
      have := (List.getElem_inj (h₀ := by omega) (h₁ := by omega) hnd).1 (Int.ofNat_inj.1 e)
      omega
theorem many_ord {dr : GraphD → Nat → Drawn} {ss : List StepD} {g : GraphD} {k : Nat} (hg : Good g) (H : ∀ g, Good g → ∀ m, m < (kidsL ss k).length → Ord g (dr g ((kidsL ss k).getD m 0)).1 (dr g ((kidsL ss k).getD m 0)).2.1 (dr g ((kidsL ss k).getD m 0)).2.2) (fi la : Int) : Ord g (manyG dr ss g k fi la).1 (manyG dr ss g k fi la).2.1 (manyG dr ss g k fi la).2.2 := by
  have h := manyN_mi (ss := ss) hg H (bareN fi k) (kidsL ss k).length (Nat.le_refl _)
  unfold manyG
  generalize manyN dr ss g.nodes.length (kidsL ss k) (addN g (bareN fi k)) (kidsL ss k).length = r at h
  simp only
  have a1 := h.lt
  have hno : ∀ y ∈ (addN r.1 (bareN la k)).flows, ∀ o ∈ r.2, y.src ≠ ((o : Nat) : Int) := fun y hy o ho => by
    rw [addN_f] at hy
    have := h.ob o ho
    rcases h.fl y hy with q | ⟨e1, e2, e3, e4, e5⟩
    · have := hg.bd y q; omega
    · exact e3 o ho
  have hn : (joinN r.2 r.1.nodes.length (addN r.1 (bareN la k)) r.2.length).nodes.length = r.1.nodes.length + 1 := by rw [(join_few _).1, addN_n]
  refine ⟨by omega, rfl, by omega, by omega, joinN_srt (g := addN r.1 (bareN la k)) h.srt hno h.nd _ (Nat.le_refl _), fun y hy => ?_⟩
  rw [hn]
  rcases (joinN_mem _).1 hy with q | ⟨j, hj, q⟩
  · rw [addN_f] at q
    rcases h.fl y q with q | ⟨e1, e2, e3, e4, e5⟩
    · exact .inl q
    · refine .inr ?_
      unfold Hi
      omega
  · subst q
    have := h.ob _ (List.getElem_mem hj)
    refine .inr ?_
    unfold Hi
    simp only
    rw [gd hj]
    omega
theorem guard_ord {dr : GraphD → Nat → Drawn} {ss : List StepD} {g : GraphD} {k : Nat} (hg : Good g) (H : ∀ g, Good g → ∀ m, m < (kidsL ss k).length → Ord g (dr g ((kidsL ss k).getD m 0)).1 (dr g ((kidsL ss k).getD m 0)).2.1 (dr g ((kidsL ss k).getD m 0)).2.2) (hk : 2 ≤ (kidsL ss k).length) : Ord g (guardG dr ss g k).1 (guardG dr ss g k).2.1 (guardG dr ss g k).2.2 := by
  unfold guardG
  have h1 := H _ (hg.addN ⟨11, k, ⟨#[]⟩, (PJ ss k).arg, []⟩) 0 (by omega)
  generalize dr (addN g ⟨11, k, ⟨#[]⟩, (PJ ss k).arg, []⟩) ((kidsL ss k).getD 0 0) = q1 at h1
  have g1 := h1.good (hg.addN _)
  have h2 := H _ (g1.addN (bareN 12 k)) 1 (by omega)
  generalize hq : dr (addN q1.1 (bareN 12 k)) ((kidsL ss k).getD 1 0) = q2 at h2
  simp only [hq]
  clear H hq
  obtain ⟨q, i1, o1⟩ := q1
  obtain ⟨p, i2, o2⟩ := q2
  simp only at h1 h2 g1 ⊢
  have a1 := h1.lt; have a2 := h1.i; have a3 := h1.o1; have a4 := h1.o2
  have b1 := h2.lt; have b2 := h2.i; have b3 := h2.o1; have b4 := h2.o2
  rw [addN_n] at a1 a2 a3 b1 b2 b3
  have hfl : ∀ y ∈ p.flows, y ∈ g.flows ∨ Hi (g.nodes.length + 1) q.nodes.length o1 y ∨ Hi (q.nodes.length + 1) p.nodes.length o2 y := fun y hy => by
    rcases h2.fl y hy with e | e
    · rw [addN_f] at e
      rcases h1.fl y e with e | e
      · exact .inl e
      · rw [addN_n] at e; exact .inr (.inl e)
    · rw [addN_n] at e; exact .inr (.inr e)
  have hs : ∀ y ∈ p.flows, (y.src < (g.nodes.length : Int)) ∨ Hi (g.nodes.length + 1) q.nodes.length o1 y ∨ Hi (q.nodes.length + 1) p.nodes.length o2 y := fun y hy => by
    rcases hfl y hy with e | e
    · exact .inl (hg.bd y e).1
    · exact .inr e
  refine ⟨by simp only [addF_n, addN_n]; omega, rfl, by omega, by simp only [addF_n, addN_n]; omega, ?_, ?_⟩
  · refine link_srt (link_srt (link_srt (link_srt (link_srt h2.srt ?_) ?_) ?_) ?_) ?_
    · intro y hy e
      simp only at e ⊢
      have := hs y hy
      unfold Hi at this
      omega
    · intro y hy e
      rcases link_mem.1 hy with rfl | hy
      · simp only; omega
      simp only at e ⊢
      have := hs y hy
      unfold Hi at this
      omega
    · intro y hy e
      rcases link_mem.1 hy with rfl | hy
      · simp only at e; omega
      rcases link_mem.1 hy with rfl | hy
      · simp only at e; omega
      simp only at e ⊢
      have := hs y hy
      unfold Hi at this
      omega
    · intro y hy e
      rcases link_mem.1 hy with rfl | hy
      · simp only at e; omega
      rcases link_mem.1 hy with rfl | hy
      · simp only at e; omega
      rcases link_mem.1 hy with rfl | hy
      · simp only at e; omega
      simp only at e ⊢
      have := hs y hy
      unfold Hi at this
      omega
    · intro y hy e
      rcases link_mem.1 hy with rfl | hy
      · simp only at e; omega
      rcases link_mem.1 hy with rfl | hy
      · simp only at e; omega
      rcases link_mem.1 hy with rfl | hy
      · simp only at e; omega
      rcases link_mem.1 hy with rfl | hy
      · simp only at e; omega
      simp only at e ⊢
      have := hs y hy
      unfold Hi at this
      omega
  · intro y hy
    simp only [addF_n, addN_n]
    rcases link_mem.1 hy with rfl | hy
    · exact .inr (by unfold Hi; simp only; omega)
    rcases link_mem.1 hy with rfl | hy
    · exact .inr (by unfold Hi; simp only; omega)
    rcases link_mem.1 hy with rfl | hy
    · exact .inr (by unfold Hi; simp only; omega)
    rcases link_mem.1 hy with rfl | hy
    · exact .inr (by unfold Hi; simp only; omega)
    rcases link_mem.1 hy with rfl | hy
    · exact .inr (by unfold Hi; simp only; omega)
    rcases hfl y hy with e | e | e
    · exact .inl e
    · exact .inr (by unfold Hi at *; omega)
    · exact .inr (by unfold Hi at *; omega)
theorem step_ord {ss : List StepD} (hpf : pFault ss = 0) : ∀ f g k, k < ss.length → 8 ≤ f + deepG ss k → Good g → Ord g (stepG ss f g k).1 (stepG ss f g k).2.1 (stepG ss f g k).2.2
  | 0, g, k, hk, hd, hg => by
    have := deep_le hpf hk
    omega
  | f + 1, g, k, hk, hd, hg => by
    obtain ⟨h1, h2⟩ := kindOf hpf hk
    rw [← PJ_eq hk] at h1 h2
    have H : ∀ g, Good g → ∀ m, m < (kidsL ss k).length → Ord g (stepG ss f g ((kidsL ss k).getD m 0)).1 (stepG ss f g ((kidsL ss k).getD m 0)).2.1 (stepG ss f g ((kidsL ss k).getD m 0)).2.2 := fun g hg m hm => by
      rw [gd hm]
      have e1 := kid_mem (List.getElem_mem hm)
      have e2 := kid_deep hpf hk (List.getElem_mem hm)
      exact step_ord hpf f g _ e1.1 (by omega) hg
    rw [stepG]
    split
    · exact many_ord hg H 7 8
    split
    · exact many_ord hg H 9 10
    split
    · rename_i e
      rw [e] at h2
      have h3 : (kidsL ss k).length = 2 := by simpa [manyOk] using h2
      exact guard_ord hg H (by omega)
    split
    · rename_i e
      rw [e] at h2
      have h3 : 1 ≤ (kidsL ss k).length := by simpa [manyOk] using h2
      exact seqN_ord hg H (H g hg 0 (by omega)) _ (by omega)
    · exact lone_ord hg _
end Gr
end Go.Proofs.YtfgckeoigkoflaaGreatDoor
/- The flows of a drawn process stand in order: the whole graph. -/
namespace Go.Proofs.YtfgckeoigkoflaaGreatDoor
set_option linter.unusedVariables false
namespace Gr
open Nd (NodeD)
open Gn (GNodeD)
open Fl (FlowD)
open St (StepD)
open Pf (PJ PJ_eq kidsL pFault manyOk)
theorem good_nil : Good ⟨[], []⟩ := ⟨List.Pairwise.nil, fun y hy => by cases hy⟩
theorem drawn_ord {ss : List StepD} (hpf : pFault ss = 0) (h0 : 0 < ss.length) : Ord (addN ⟨[], []⟩ (bareN 1 0)) (drawnG ss).1 (drawnG ss).2.1 (drawnG ss).2.2 := step_ord hpf 8 _ 0 h0 (by omega) (good_nil.addN _)
/-- The flows stand by the node they leave, then by the node they reach; no two have both. -/
theorem graph_srt {ss : List StepD} (hpf : pFault ss = 0) (h0 : 0 < ss.length) : Srt (graphL ss).flows ∧ (∀ y ∈ (graphL ss).flows, 0 ≤ y.src ∧ y.src < ((graphL ss).nodes.length : Int) ∧ 0 ≤ y.dst ∧ y.dst < ((graphL ss).nodes.length : Int)) := by
  have h := drawn_ord hpf h0
  unfold graphL
  generalize drawnG ss = q at h
  obtain ⟨q, i, o⟩ := q
  simp only at h ⊢
  have a1 := h.lt; have a2 := h.i; have a3 := h.o1; have a4 := h.o2
  rw [addN_n] at a1 a2 a3
  simp only [List.length_nil, Nat.zero_add] at a1 a2 a3
  have hfl : ∀ y ∈ q.flows, Hi 1 q.nodes.length o y := fun y hy => by
    rcases h.fl y hy with e | e
    · cases e
    · exact e
  refine ⟨link_srt (link_srt h.srt ?_) ?_, ?_⟩
  · intro y hy e
    simp only at e ⊢
    have := hfl y hy
    unfold Hi at this
    omega
  · intro y hy e
    rcases link_mem.1 hy with rfl | hy
    · simp only at e; omega
    simp only at e ⊢
    have := hfl y hy
    unfold Hi at this
    omega
  · intro y hy
    simp only [addF_n, addN_n]
    rcases link_mem.1 hy with rfl | hy
    · simp only; omega
    rcases link_mem.1 hy with rfl | hy
    · simp only; omega
    have := hfl y hy
    unfold Hi at this
    omega
/-- Two rows in order that hold the same flows are one. -/
theorem srt_one : ∀ {l m : List FlowD}, Srt l → Srt m → (∀ y, y ∈ l ↔ y ∈ m) → l = m
  | [], [], _, _, _ => rfl
  | [], y :: m, _, _, h => by have := (h y).2 List.mem_cons_self; cases this
  | x :: l, [], _, _, h => by have := (h x).1 List.mem_cons_self; cases this
  | x :: l, y :: m, hl, hm, h => by
    obtain ⟨l1, l2⟩ := List.pairwise_cons.1 hl
    obtain ⟨m1, m2⟩ := List.pairwise_cons.1 hm
    have irr : ∀ z, ¬ ltF z z := fun z hz => by unfold ltF at hz; omega
    have asy : ∀ a b, ltF a b → ¬ ltF b a := fun a b h1 h2 => by unfold ltF at h1 h2; omega
    have e : x = y := by
      rcases List.mem_cons.1 ((h x).1 List.mem_cons_self) with e | e
      · exact e
      · rcases List.mem_cons.1 ((h y).2 List.mem_cons_self) with e' | e'
        · exact e'.symm
        · exact absurd (l1 y e') (asy _ _ (m1 x e))
    subst e
    rw [srt_one l2 m2 (fun z => ⟨fun hz => ?_, fun hz => ?_⟩)]
    · rcases List.mem_cons.1 ((h z).1 (List.mem_cons_of_mem _ hz)) with e | e
      · subst e; exact absurd (l1 _ hz) (irr _)
      · exact e
    · rcases List.mem_cons.1 ((h z).2 (List.mem_cons_of_mem _ hz)) with e | e
      · subst e; exact absurd (m1 _ hz) (irr _)
      · exact e
end Gr
end Go.Proofs.YtfgckeoigkoflaaGreatDoor
/- What the program's drawing keeps beside the graph; what a step comes to, as far as a depth. -/
namespace Go.Proofs.YtfgckeoigkoflaaGreatDoor
open Go.RowKit
set_option linter.unusedVariables false
namespace Gr
open Ex (hid nvals at_of_owns owns_keep inR)
open Nd (NodeD)
open Gn (GNodeD)
open Fl (FlowD)
open St (StepD)
open Nst (own)
open Pf (PJ PJ_eq kidsL pFault PAt PCells KidsAt path)
open Rc
/-- A block of a call's own, beside the graph. -/
structure LB (w : World) (D : Nat) (S : Nat → Prop) (b : Nat) (o : Obj) : Prop where
  at' : w.heap[b]? = some o
  ne : b ≠ D
  ns : ¬ S b
theorem LB.lt {w : World} {D b : Nat} {S : Nat → Prop} {o : Obj} (h : LB w D S b o) : b < w.heap.size := (Array.getElem?_eq_some_iff.1 h.at').1
theorem LB.fr {w w' : World} {D b : Nat} {S S' : Nat → Prop} {o : Obj} (h : LB w D S b o) (hf : Fr w w' D S S') : LB w' D S' b o := ⟨(hf.blk b h.lt h.ne h.ns).trans h.at', h.ne, hf.ne h.lt h.ns⟩
theorem LB.below {w w' : World} {D b : Nat} {S : Nat → Prop} {o : Obj} (h : LB w D S b o) (hb : Below w.heap.size w w') : LB w' D S b o := ⟨(hb.block b h.lt).trans h.at', h.ne, h.ns⟩
theorem LB.cell {w : World} {D b : Nat} {S : Nat → Prop} {cs : Array Value} {t : TypeId} {fr : Nat × Nat} (h : LB w D S b (.cells cs t fr)) (i : Nat) : w.cell? ⟨b, i, none⟩ = cs[i]? := bcell h.at' i
theorem LB.free {w : World} {D b : Nat} {S : Nat → Prop} {cs : Array Value} {t : TypeId} (h : LB w D S b (.cells cs t (0, 0))) (i : Nat) : w.frozen? ⟨b, i, none⟩ = false := bfree h.at' i
theorem LB.set {w : World} {D b i : Nat} {S : Nat → Prop} {cs : Array Value} {t : TypeId} (h : LB w D S b (.cells cs t (0, 0))) (v : Value) : LB (w.setCell ⟨b, i, none⟩ v) D S b (.cells (cs.setIfInBounds i v) t (0, 0)) := ⟨blk2_set h.at' v, h.ne, h.ns⟩
theorem LB.other {w : World} {D b c i : Nat} {S : Nat → Prop} {o : Obj} (h : LB w D S b o) (hc : c ≠ b) (v : Value) : LB (w.setCell ⟨c, i, none⟩ v) D S b o := ⟨(Below.heap_setCell _ _ _ _ (by dsimp only; omega)).trans h.at', h.ne, h.ns⟩
theorem DB.new {w : World} {D : Nat} {S : Nat → Prop} {u : Value} {g : GraphD} (h : DB w D S u g) (o : Obj) : LB (w.alloc o) D S w.heap.size o := ⟨heap_alloc_new w o, (by have := h.lt; omega), fun e => by have := (h.owns _ e).2; omega⟩
/-- A block of another kind is turned. -/
theorem DBx.other {w w' : World} {D M c : Nat} {u vn : Value} {pn : Nat → Nat} {E : Nat → Value} {fs : List (FlowD × Value)} {g : GraphD} {cs : Array Value} {t : TypeId} {fr : Nat × Nat} (h : DBx w D u vn M pn E fs g) (hc : w.heap[c]? = some (.cells cs t fr)) (hD : c ≠ D) (h1 : t ≠ 96) (h2 : t ≠ 115) (hv : ¬ own vn c)
    (hk : ∀ b, b < w.heap.size → b ≠ c → w'.heap[b]? = w.heap[b]?) : DBx w' D u vn M pn E fs g := by
  have row : ∀ {v : Value} {k : Nat} {xs : List Value}, w.ownsRow (D + 1) 115 4 v k xs → w'.ownsRow (D + 1) 115 4 v k xs := fun {v k xs} hr => Nst.own_kept hr (fun b e => hk b (Nst.own_lt hr e).2 (fun e2 => by
    subst e2
    obtain ⟨_, ⟨rfl, _⟩ | ⟨gg, cap, cu, rfl, _, h4, _⟩⟩ := hr
    · cases e
    · obtain rfl : gg = b := Option.some.inj e
      rw [h4] at hc
      have := Option.some.inj hc
      simp at this
      exact h2 this.2.1.symm))
  exact {
    box := (hk D h.lt (Ne.symm hD)).trans h.box
    row := Nst.own_kept h.row (fun b e => hk b (Nst.own_lt h.row e).2 (fun e2 => hv (e2 ▸ e)))
    node := fun j hj => ⟨(h.node j hj).1, (hk _ (Array.getElem?_eq_some_iff.1 (h.node j hj).2).1 (fun e => by
      have h4 := (h.node j hj).2
      rw [e, hc] at h4
      have := Option.some.inj h4
      simp at this
      exact h1 this.2.1)).trans (h.node j hj).2⟩
    expr := fun j hj => row (h.expr j hj)
    mlt := h.mlt
    mp := h.mp.keep (hk M h.mp.lt (fun e => by
      obtain ⟨es, cl, h6, _⟩ := h.mp
      rw [e, hc] at h6
      cases h6))
    perm := h.perm
    cond := fun p hp => row (h.cond p hp)
    sepE := h.sepE
    sepF := h.sepF
    sepX := h.sepX }
theorem DB.other {w w' : World} {D c : Nat} {S : Nat → Prop} {u : Value} {g : GraphD} {cs : Array Value} {t : TypeId} {fr : Nat × Nat} (h : DB w D S u g) (hc : LB w D S c (.cells cs t fr)) (h1 : t ≠ 96) (h2 : t ≠ 115) (hk : ∀ b, b < w.heap.size → b ≠ c → w'.heap[b]? = w.heap[b]?) : DB w' D S u g := by
  obtain ⟨vn, M, pn, E, fs, hx, hS⟩ := h
  exact ⟨vn, M, pn, E, fs, hx.other hc.at' hc.ne h1 h2 (fun e => hc.ns ((hS c).2 (.inr e))) hk, hS⟩
theorem DB.set {w : World} {D c i : Nat} {S : Nat → Prop} {u : Value} {g : GraphD} {cs : Array Value} {t : TypeId} {fr : Nat × Nat} (h : DB w D S u g) (hc : LB w D S c (.cells cs t fr)) (h1 : t ≠ 96) (h2 : t ≠ 115) (v : Value) : DB (w.setCell ⟨c, i, none⟩ v) D S u g :=
  h.other hc h1 h2 (fun b _ hb => Below.heap_setCell _ _ _ _ (by dsimp only; omega))
theorem PtN.set {w : World} {D p n c i : Nat} {S : Nat → Prop} {cs : Array Value} {t : TypeId} {fr : Nat × Nat} (h : PtN w D p n) (hc : LB w D S c (.cells cs t fr)) (h1 : t ≠ 96) (v : Value) : PtN (w.setCell ⟨c, i, none⟩ v) D p n := by
  obtain ⟨x, ve, a1, a2⟩ := h
  refine ⟨x, ve, a1, (Below.heap_setCell _ _ _ _ ?_).trans a2⟩
  intro e
  have e2 : p = c := e
  rw [e2, hc.at'] at a2
  have := Option.some.inj a2
  simp at this
  exact h1 this.2.1
/-- A block of the call's own is turned that was not there ahead. -/
theorem Fr.set {w w' : World} {D c i : Nat} {S S' : Nat → Prop} (h : Fr w w' D S S') (hc : w.heap.size ≤ c) (v : Value) : Fr w (w'.setCell ⟨c, i, none⟩ v) D S S' :=
  ⟨h.os, h.tape, h.output, by simp [World.setCell]; exact h.size, fun b h1 h2 h3 => (Below.heap_setCell _ _ _ _ (by dsimp only; omega)).trans (h.blk b h1 h2 h3), h.new⟩
theorem Fr.below' {w w' w'' : World} {D : Nat} {S S' : Nat → Prop} (h : Fr w w' D S S') (hb : Below w'.heap.size w' w'') : Fr w w'' D S S' := h.trans (Fr.of_below hb)
/-- What a call that draws leaves. -/
def SPost (D : Nat) (S : Nat → Prop) (u : Value) (d : Drawn) (w : World) (e : Ending) (w' : World) : Prop := ∃ p q S', e = .returned (.agg #[.pointer (some ⟨p, 0, none⟩), .pointer (some ⟨q, 0, none⟩)]) ∧ DB w' D S' u d.1 ∧ Fr w w' D S S' ∧ PtN w' D p d.2.1 ∧ PtN w' D q d.2.2
/-- A step that knows its place, as it lies in the row. -/
def pstep (ss : List StepD) (k : Nat) (h : k < ss.length) (kv vc ve : Value) : Value := sval (k : Int) ((path ss (k + 1)).length : Int) kv ss[k].kind ss[k].parent ss[k].name ss[k].arg vc ve
/-- What drawStep does, as far as a depth. -/
def DG (ss : List StepD) (u : Value) (wp : World) (f : Nat) : Prop := ∀ (D : Nat) (S : Nat → Prop) (g : GraphD) (k : Nat) (hk : k < ss.length) (kv vc ve : Value) (w : World), wp.heap.size + 1 ≤ D → Below wp.heap.size wp w → DB w D S u g → Good g → PCells wp ss k hk kv vc ve → 8 ≤ f + deepG ss k → g.nodes.length + NB f ≤ 1000000000000 → g.flows.length + FB f ≤ 1000000000000 →
  Calls Tryz.prog 19 #[.pointer (some ⟨D, 0, none⟩), pstep ss k hk kv vc ve] w (SPost D S u (stepG ss f g k) w)
/-- What stays while steps are drawn. -/
structure Env (ss : List StepD) (u : Value) (wp : World) : Prop where
  at' : PAt wp ss u
  rul : NRul wp
  pf : pFault ss = 0
  len : ss.length ≤ 24
  cond : ∀ j (hj : j < ss.length), ss[j].cond.length ≤ 100000
  expr : ∀ j (hj : j < ss.length), ss[j].expr.length ≤ 100000
  name : ∀ j (hj : j < ss.length), ss[j].name.size ≤ 1048576
theorem Fr.env {w w' wp : World} {D : Nat} {S S' : Nat → Prop} {u : Value} {g : GraphD} (h : Fr w w' D S S') (hb : Below wp.heap.size wp w) (hG : DB w D S u g) (hwp : wp.heap.size + 1 ≤ D) : Below wp.heap.size wp w' :=
  hb.trans ⟨h.os, h.tape, h.output, h.size, fun b hlt => h.blk b (by have := hG.lt; omega) (by omega) (fun e => by have := (hG.owns b e).1; omega)⟩
/-- The step of a place, out of the row. -/
theorem step_at {ss : List StepD} {u : Value} {wp w : World} (h : PAt wp ss u) (hb : Below wp.heap.size wp w) : ∃ g cap, u = .slice (some ⟨g, 0, none⟩) ss.length cap ∧ g < wp.heap.size ∧ ∀ j (hj : j < ss.length), ∃ kv vc ve, PCells wp ss j hj kv vc ve ∧ w.cell? ⟨g, j * 9, none⟩ = some (.int .i64 (j : Int)) ∧ w.cell? ⟨g, j * 9 + 1, none⟩ = some (.int .i64 ((path ss (j + 1)).length : Int)) ∧ w.cell? ⟨g, j * 9 + 2, none⟩ = some kv ∧ w.cell? ⟨g, j * 9 + 3, none⟩ = some (.int .i64 ss[j].kind) ∧ w.cell? ⟨g, j * 9 + 4, none⟩ = some (.int .i64 ss[j].parent) ∧ w.cell? ⟨g, j * 9 + 5, none⟩ = some (.string ss[j].name) ∧ w.cell? ⟨g, j * 9 + 6, none⟩ = some (.int .i64 ss[j].arg) ∧ w.cell? ⟨g, j * 9 + 7, none⟩ = some vc ∧ w.cell? ⟨g, j * 9 + 8, none⟩ = some ve := by
  obtain ⟨g, cap, e, hg, hj⟩ := h
  refine ⟨g, cap, e, hg, fun j h => ?_⟩
  obtain ⟨kv, vc, ve, c0, c1, c2, c3, c4, c5, c6, c7, c8, hp⟩ := hj j h
  exact ⟨kv, vc, ve, hp, old_cell hb hg c0, old_cell hb hg c1, old_cell hb hg c2, old_cell hb hg c3, old_cell hb hg c4, old_cell hb hg c5, old_cell hb hg c6, old_cell hb hg c7, old_cell hb hg c8⟩
theorem pc_slices {w : World} {ss : List StepD} {k : Nat} {hk : k < ss.length} {kv vc ve : Value} (h : PCells w ss k hk kv vc ve) : (∃ a c, kv = .slice a (kidsL ss k).length c) ∧ (∃ a c, vc = .slice a ss[k].cond.length c) ∧ ∃ a c, ve = .slice a ss[k].expr.length c := ⟨h.kids.slice, h.cond.slice, h.expr.slice⟩
/-- addNode at a step, for the kinds that come of steps. -/
theorem addAt (ss : List StepD) (u : Value) (wp : World) (he : Env ss u wp) (D : Nat) (S : Nat → Prop) (g : GraphD) (k : Nat) (hk : k < ss.length) (kv vc ve : Value) (w : World) (hwp : wp.heap.size + 1 ≤ D) (hb : Below wp.heap.size wp w) (h : DB w D S u g) (hp : PCells wp ss k hk kv vc ve) (hn : g.nodes.length ≤ 1000000000000) (kd : Int) (x : GNodeD)
    (hx : (kd = 3 ∧ x = ⟨3, (k : Int), ss[k].name, 0, []⟩) ∨ ((kd = 4 ∨ kd = 5 ∨ kd = 11) ∧ x = ⟨kd, (k : Int), ⟨#[]⟩, ss[k].arg, []⟩) ∨ (kd = 6 ∧ x = ⟨6, (k : Int), ⟨#[]⟩, ss[k].arg, ss[k].expr⟩) ∨ ((kd = 7 ∨ kd = 8 ∨ kd = 9 ∨ kd = 10 ∨ kd = 12 ∨ kd = 13) ∧ x = bareN kd k)) :
    Calls Tryz.prog 18 #[.pointer (some ⟨D, 0, none⟩), .int .i64 kd, pstep ss k hk kv vc ve] w (NPost D S u g x w) := by
  have hr : NRul w := he.rul.below hb he.rul.lt
  obtain ⟨⟨ak, ck, rfl⟩, ⟨ac, cc, rfl⟩, ae, ce, rfl⟩ := pc_slices hp
  unfold pstep
  rcases hx with ⟨rfl, rfl⟩ | ⟨e, rfl⟩ | ⟨rfl, rfl⟩ | ⟨e, rfl⟩
  · exact addNodeD D S u g 3 _ _ _ _ _ _ _ _ _ _ _ _ _ _ _ _ w h hr rfl rfl hn (he.name k hk)
  · rcases e with rfl | rfl | rfl
    · exact addNodeC D S u g 4 _ _ _ _ _ _ _ _ _ _ _ _ _ _ _ _ w h hr rfl rfl hn
    · exact addNodeC D S u g 5 _ _ _ _ _ _ _ _ _ _ _ _ _ _ _ _ w h hr rfl rfl hn
    · exact addNodeC D S u g 11 _ _ _ _ _ _ _ _ _ _ _ _ _ _ _ _ w h hr rfl rfl hn
  · exact addNodeE D S u g 6 _ _ _ _ _ _ _ _ _ _ _ _ _ _ _ w h hr rfl rfl hn _ _ (hp.expr.below hb) (he.expr k hk)
  · rcases e with rfl | rfl | rfl | rfl | rfl | rfl
    · exact addNodeB D S u g 7 _ _ _ _ _ _ _ _ _ _ _ _ _ _ _ _ w h hr rfl rfl hn
    · exact addNodeB D S u g 8 _ _ _ _ _ _ _ _ _ _ _ _ _ _ _ _ w h hr rfl rfl hn
    · exact addNodeB D S u g 9 _ _ _ _ _ _ _ _ _ _ _ _ _ _ _ _ w h hr rfl rfl hn
    · exact addNodeB D S u g 10 _ _ _ _ _ _ _ _ _ _ _ _ _ _ _ _ w h hr rfl rfl hn
    · exact addNodeB D S u g 12 _ _ _ _ _ _ _ _ _ _ _ _ _ _ _ _ w h hr rfl rfl hn
    · exact addNodeB D S u g 13 _ _ _ _ _ _ _ _ _ _ _ _ _ _ _ _ w h hr rfl rfl hn
end Gr
end Go.Proofs.YtfgckeoigkoflaaGreatDoor
