/- The graph that the program has drawn, told: plain facts, and its nodes. -/
import Derived.Test.YtfgckeoigkoflaaGreatDoorJGraphOf21
import Derived.Test.YtfgckeoigkoflaaGreatDoorJGraphOf23
import Derived.Deep.RegionLaw
namespace Go.Proofs.YtfgckeoigkoflaaGreatDoor
open Go.RowKit
set_option linter.unusedVariables false
namespace Gr
open Ex (hid nvals at_of_owns owns_keep inR grown_cell2 grown_free2)
open Nd (NodeD)
open Gn (GNodeD)
open Fl (FlowD)
open St (StepD)
open Nst (own flat)
open Rc
/-- A graph whose memory is all its own. -/
structure GO (w : World) (B : Nat) (vn vf : Value) (g : GraphD) (E F : Nat → Value) : Prop where
  ns : GnOAt w B vn g.nodes E
  fs : FlOAt w B vf g.flows F
  x1 : ∀ b, own vn b → ¬ own vf b
  x2 : ∀ b, own vn b → ∀ j, j < g.flows.length → ¬ own (F j) b
  x3 : ∀ i, i < g.nodes.length → ∀ b, own (E i) b → ¬ own vf b
  x4 : ∀ i, i < g.nodes.length → ∀ b, own (E i) b → ∀ j, j < g.flows.length → ¬ own (F j) b
theorem perm_lift {α β : Type} (f : α → β) {l l' : List β} (h : l.Perm l') : ∀ {fs : List α}, fs.map f = l → ∃ qs : List α, qs.Perm fs ∧ qs.map f = l' := by
  induction h with
  | nil => intro fs e; exact ⟨[], by rw [List.map_eq_nil_iff.1 e], rfl⟩
  | cons x p ih =>
    intro fs e
    obtain ⟨a, r, rfl, rfl, e2⟩ := List.map_eq_cons_iff.1 e
    obtain ⟨qs, h1, h2⟩ := ih e2
    exact ⟨a :: qs, h1.cons a, by rw [List.map_cons, h2]⟩
  | swap x y l =>
    intro fs e
    obtain ⟨a, r, rfl, rfl, e2⟩ := List.map_eq_cons_iff.1 e
    obtain ⟨b, r2, rfl, rfl, e3⟩ := List.map_eq_cons_iff.1 e2
    exact ⟨b :: a :: r2, List.Perm.swap a b r2, by rw [List.map_cons, List.map_cons, e3]⟩
  | trans p q ih1 ih2 =>
    intro fs e
    obtain ⟨qs, h1, h2⟩ := ih1 e
    obtain ⟨rs, h3, h4⟩ := ih2 h2
    exact ⟨rs, h3.trans h1, h4⟩
/-- The flows of the map, in the order of their ends, are those of the graph. -/
theorem sorted_flows {g : GraphD} {fs : List (FlowD × Value)} {ss : List (Int × Int)} (hp : (fs.map (·.1)).Perm g.flows) (hs : Srt g.flows) (hn : (fs.map fun p => (p.1.src, p.1.dst)).Nodup) (h : ss.Perm (fs.map fun p => (p.1.src, p.1.dst))) (ho : ss.Pairwise (fun x y => ¬ cmpE y x < 0)) :
    ∃ qs : List (FlowD × Value), qs.Perm fs ∧ qs.map (fun p => (p.1.src, p.1.dst)) = ss ∧ qs.map (·.1) = g.flows := by
  obtain ⟨qs, h1, h2⟩ := perm_lift (fun p : FlowD × Value => (p.1.src, p.1.dst)) h.symm rfl
  refine ⟨qs, h1, h2, ?_⟩
  have hnd : (qs.map fun p => (p.1.src, p.1.dst)).Nodup := ((h1.map _).nodup_iff).2 hn
  have hsr : Srt (qs.map (·.1)) := by
    unfold Srt
    rw [List.pairwise_map]
    rw [← h2, List.pairwise_map] at ho
    have hnd2 := List.pairwise_map.1 hnd
    refine (List.Pairwise.and ho hnd2).imp (fun {a b} hab => ?_)
    obtain ⟨h3, h4⟩ := hab
    rw [cmpE_lt] at h3
    simp only at h3
    unfold ltF
    have : ¬ (a.1.src = b.1.src ∧ a.1.dst = b.1.dst) := fun e => h4 (by rw [e.1, e.2])
    omega
  refine srt_one hsr hs (fun y => ?_)
  exact ((h1.map (·.1)).trans hp).mem_iff
theorem fent_key (fs : List (FlowD × Value)) : (fs.map fun p => fent p.1 p.2).map (·.1) = fs.map fun p => (p.1.src, p.1.dst) := by simp [fent, Function.comp_def]
theorem row5 {w : World} {b : Nat} {x : GNodeD} {ve : Value} {t : TypeId} (h1 : ve.oneCell' = true) (h : w.heap[b]? = some (.cells #[.int .i64 x.kind, .int .i64 x.step, .string x.name, .int .i64 x.arg, ve] t (0, 0))) : Ap.Row w 5 (.slice (some ⟨b, 0, none⟩) 1 1) 1 (gncell x ve) :=
  ⟨_, _, rfl, rfl, (fun u hu => by simp [gncell] at hu; rcases hu with rfl | rfl | rfl | rfl | rfl <;> first | rfl | exact h1), .inr ⟨_, rfl, World.news_of_block h⟩⟩
theorem row3 {w : World} {b : Nat} {x : FlowD} {vc : Value} {t : TypeId} (h1 : vc.oneCell' = true) (h : w.heap[b]? = some (.cells #[.int .i64 x.src, .int .i64 x.dst, vc] t (0, 0))) : Ap.Row w 3 (.slice (some ⟨b, 0, none⟩) 1 1) 1 (flcell x vc) :=
  ⟨_, _, rfl, rfl, (fun u hu => by simp [flcell] at hu; rcases hu with rfl | rfl | rfl <;> first | rfl | exact h1), .inr ⟨_, rfl, World.news_of_block h⟩⟩
/-- What is gathered while a graph is told. -/
structure TG (w wr : World) (Gb R : Nat) (vn vf : Value) (m k : Nat) (cn cf : Nat → List Value) : Prop where
  below : Below w.heap.size w wr
  box : wr.heap[Gb]? = some (.cells #[vn, vf] 27 (0, 0))
  res : wr.heap[R]? = some (.cells #[.slice none 0 0, .slice none 0 0] 27 (0, 0))
  rn : wr.ownsRow w.heap.size 78 5 vn m (flat cn m)
  rf : wr.ownsRow w.heap.size 101 3 vf k (flat cf k)
theorem TG.keep {w wr w' : World} {Gb R m k : Nat} {vn vf : Value} {cn cf : Nat → List Value} (h : TG w wr Gb R vn vf m k cn cf) (hb : Below wr.heap.size wr w') : TG w w' Gb R vn vf m k cn cf :=
  ⟨h.below.trans (hb.mono h.below.size), (hb.block _ (Array.getElem?_eq_some_iff.1 h.box).1).trans h.box, (hb.block _ (Array.getElem?_eq_some_iff.1 h.res).1).trans h.res, owns_keep h.rn hb, owns_keep h.rf hb⟩
theorem row_diff {w : World} {B B' : Nat} {e e' : TypeId} {z z' n n' : Nat} {v v' : Value} {xs xs' : List Value} (h : w.ownsRow B e z v n xs) (h' : w.ownsRow B' e' z' v' n' xs') (hne : e ≠ e') : ∀ b, own v b → ¬ own v' b := fun b e1 e2 => by
  obtain ⟨_, ⟨rfl, _⟩ | ⟨g1, c1, u1, rfl, _, h1, _⟩⟩ := h
  · cases e1
  · obtain ⟨_, ⟨rfl, _⟩ | ⟨g2, c2, u2, rfl, _, h2, _⟩⟩ := h'
    · cases e2
    · obtain rfl : g1 = b := Option.some.inj e1
      obtain rfl : g2 = g1 := Option.some.inj e2
      rw [h1] at h2
      have := Option.some.inj h2
      simp at this
      exact hne this.2
theorem box_ne {w : World} {B : Nat} {e t : TypeId} {z n b : Nat} {v : Value} {xs : List Value} {cs : Array Value} {fr : Nat × Nat} (h : w.ownsRow B e z v n xs) (hb : w.heap[b]? = some (.cells cs t fr)) (hne : t ≠ e) : ¬ own v b := fun e1 => by
  obtain ⟨_, ⟨rfl, _⟩ | ⟨g1, c1, u1, rfl, _, h1, _⟩⟩ := h
  · cases e1
  · obtain rfl : g1 = b := Option.some.inj e1
    rw [h1] at hb
    have := Option.some.inj hb
    simp at this
    exact hne this.2.1.symm
/-- One more node is told. -/
theorem TG.node {w wr wa w2 : World} {Gb R m k cp : Nat} {vn vf : Value} {cn cf : Nat → List Value} {ad : Option Addr} {x : List Value} (h : TG w wr Gb R vn vf m k cn cf) (hG : w.heap.size ≤ Gb) (hGR : Gb ≠ R) (ha : Below wr.heap.size wr wa) (hx : cn m = x)
    (hown : w2.ownsRow w.heap.size 78 5 (.slice ad (m + 1) cp) (m + 1) (flat cn m ++ x)) (hg : wa.grownBy w2 vn.ownBlock) : TG w (w2.setCell ⟨Gb, 0, none⟩ (.slice ad (m + 1) cp)) Gb R (.slice ad (m + 1) cp) vf (m + 1) k cn cf := by
  have nG : ¬ own vn Gb := box_ne h.rn h.box (by decide)
  have nR : ¬ own vn R := box_ne h.rn h.res (by decide)
  have hk : ∀ b, b < wr.heap.size → ¬ own vn b → w2.heap[b]? = wr.heap[b]? := fun b hb hn => (hg.block b (Nat.lt_of_lt_of_le hb ha.size) (fun e => hn e.symm)).trans (ha.block b hb)
  have hGl := (Array.getElem?_eq_some_iff.1 h.box).1
  have hRl := (Array.getElem?_eq_some_iff.1 h.res).1
  have hbx := (hk Gb hGl nG).trans h.box
  have hb2 : Below w.heap.size w w2 := (h.below.trans (ha.mono h.below.size)).grown hg (Nat.le_trans h.below.size ha.size) (fun b e => (Nst.own_lt h.rn e).1)
  have hset : ∀ b, b ≠ Gb → (w2.setCell ⟨Gb, 0, none⟩ (.slice ad (m + 1) cp)).heap[b]? = w2.heap[b]? := fun b hb => Below.heap_setCell _ _ _ _ (by dsimp only; omega)
  refine ⟨hb2.setCell (p := ⟨Gb, 0, none⟩) hG _, blk2_set hbx _, (hset R (Ne.symm hGR)).trans ((hk R hRl nR).trans h.res), ?_, ?_⟩
  · rw [Nst.flat_succ, hx]
    exact Nst.own_kept hown (fun b e => hset b (fun e2 => box_ne hown hbx (by decide) (e2 ▸ e)))
  · refine Nst.own_kept h.rf (fun b e => ?_)
    rw [hset b (fun e2 => box_ne h.rf h.box (by decide) (e2 ▸ e))]
    exact hk b (Nst.own_lt h.rf e).2 (row_diff h.rf h.rn (by decide) b e)
/-- One more flow is told. -/
theorem TG.flow {w wr wa w2 : World} {Gb R m k cp : Nat} {vn vf : Value} {cn cf : Nat → List Value} {ad : Option Addr} {x : List Value} (h : TG w wr Gb R vn vf m k cn cf) (hG : w.heap.size ≤ Gb) (hGR : Gb ≠ R) (ha : Below wr.heap.size wr wa) (hx : cf k = x)
    (hown : w2.ownsRow w.heap.size 101 3 (.slice ad (k + 1) cp) (k + 1) (flat cf k ++ x)) (hg : wa.grownBy w2 vf.ownBlock) : TG w (w2.setCell ⟨Gb, 1, none⟩ (.slice ad (k + 1) cp)) Gb R vn (.slice ad (k + 1) cp) m (k + 1) cn cf := by
  have nG : ¬ own vf Gb := box_ne h.rf h.box (by decide)
  have nR : ¬ own vf R := box_ne h.rf h.res (by decide)
  have hk : ∀ b, b < wr.heap.size → ¬ own vf b → w2.heap[b]? = wr.heap[b]? := fun b hb hn => (hg.block b (Nat.lt_of_lt_of_le hb ha.size) (fun e => hn e.symm)).trans (ha.block b hb)
  have hGl := (Array.getElem?_eq_some_iff.1 h.box).1
  have hRl := (Array.getElem?_eq_some_iff.1 h.res).1
  have hbx := (hk Gb hGl nG).trans h.box
  have hb2 : Below w.heap.size w w2 := (h.below.trans (ha.mono h.below.size)).grown hg (Nat.le_trans h.below.size ha.size) (fun b e => (Nst.own_lt h.rf e).1)
  have hset : ∀ b, b ≠ Gb → (w2.setCell ⟨Gb, 1, none⟩ (.slice ad (k + 1) cp)).heap[b]? = w2.heap[b]? := fun b hb => Below.heap_setCell _ _ _ _ (by dsimp only; omega)
  refine ⟨hb2.setCell (p := ⟨Gb, 1, none⟩) hG _, blk2_set hbx _, (hset R (Ne.symm hGR)).trans ((hk R hRl nR).trans h.res), ?_, ?_⟩
  · refine Nst.own_kept h.rn (fun b e => ?_)
    rw [hset b (fun e2 => box_ne h.rn h.box (by decide) (e2 ▸ e))]
    exact hk b (Nst.own_lt h.rn e).2 (row_diff h.rn h.rf (by decide) b e)
  · rw [Nst.flat_succ, hx]
    exact Nst.own_kept hown (fun b e => hset b (fun e2 => box_ne hown hbx (by decide) (e2 ▸ e)))
end Gr
end Go.Proofs.YtfgckeoigkoflaaGreatDoor
