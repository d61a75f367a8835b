/- Laid together: GqA, GpD, GqB. -/
import Derived.Test.YtfgckeoigkoflaaGreatDoorProg
import Derived.DeepKeys3
import Derived.Maps.Range
import Derived.Below
import Derived.Test.YtfgckeoigkoflaaGreatDoorJGraphOf13
import Derived.Test.YtfgckeoigkoflaaGreatDoorJGraphOf12
/- Maps whose keys are pairs of numbers, by the list of their entries in the order in which they were laid. -/
namespace Go.Proofs.YtfgckeoigkoflaaGreatDoor
open Go.RowKit
set_option linter.unusedVariables false
namespace Mp
open Go.ChangeMaps (setBlock heap_setBlock_same heap_setBlock_other)
open Go.MapKept (Stamped stamped_push)
def kv (p : Int × Int) : Value := .agg #[.int .i64 p.1, .int .i64 p.2]
theorem kv_inj {p q : Int × Int} (h : kv p = kv q) : p = q := by
  obtain ⟨a, b⟩ := p
  obtain ⟨c, d⟩ := q
  simp [kv] at h
  rw [h.1, h.2]
/-- Numbers that nodes may have. -/
def Rg (p : Int × Int) : Prop := (0 ≤ p.1 ∧ p.1 < 1000000000000000) ∧ 0 ≤ p.2 ∧ p.2 < 1000000000000000
abbrev Ent := (Int × Int) × Value
/-- A map at block b holds these entries. -/
def At (w : World) (b : Nat) (E : List Ent) : Prop := ∃ es clock, w.heap[b]? = some (.map es clock) ∧ Stamped es clock ∧ es.toList.map (fun x => (x.key, x.val)) = E.map (fun p => (kv p.1, p.2)) ∧ ∀ p ∈ E, Rg p.1
theorem At.keep {w w' : World} {b : Nat} {E : List Ent} (h : At w b E) (hb : w'.heap[b]? = w.heap[b]?) : At w' b E := by
  obtain ⟨es, clock, h1, h2⟩ := h
  exact ⟨es, clock, hb.trans h1, h2⟩
theorem At.lt {w : World} {b : Nat} {E : List Ent} (h : At w b E) : b < w.heap.size := by
  obtain ⟨es, clock, h1, _⟩ := h
  exact (Array.getElem?_eq_some_iff.1 h1).1
theorem At.nil {w : World} {b clock : Nat} (h : w.heap[b]? = some (.map #[] clock)) : At w b [] := ⟨#[], clock, h, ⟨fun x hx => by simp at hx, by simp, by simp⟩, rfl, fun p hp => by cases hp⟩
theorem At.keys {w : World} {b : Nat} {E : List Ent} (h : At w b E) : (E.map (·.1)).Nodup := by
  obtain ⟨es, clock, _, ⟨_, _, h3⟩, h4, _⟩ := h
  have e : (es.toList.map (fun x => (x.key, x.val))).map (·.1) = es.toList.map (·.key) := by simp [Function.comp_def]
  rw [h4, List.map_map] at e
  rw [← e] at h3
  have e2 : List.map ((fun x : Value × Value => x.1) ∘ fun p : Ent => (kv p.1, p.2)) E = (E.map (·.1)).map kv := by simp [Function.comp_def]
  rw [e2] at h3
  exact (List.pairwise_map.1 h3).imp (fun hne e => hne (by rw [e]))
/-- The key's type: a struct of two numbers. -/
theorem keyType : Tryz.prog.keyType 103 = true := by kernel_rfl
theorem cellsK : Tryz.prog.cellsOf 103 = 2 := by kernel_rfl
theorem uK : (match Tryz.prog.underlying 103 with | some (.array _ _) | some (.struct _) => true | _ => false) = true := by kernel_rfl
theorem law : Go.WideMaps.KeyLaw Tryz.prog 103 := deep_law (m := 2) (by omega) (by kernel_rfl) (by kernel_rfl) (by kernel_rfl)
theorem lits (a b : Int) (ha : (Lit.int .i64 a).wf = true) (hb : (Lit.int .i64 b).wf = true) (m : Nat) : ∃ l, Tryz.prog.keyLits (m + 1 + 1) 103 [.int .i64 a, .int .i64 b] = some l := by
  have hu : (Tryz.prog.underlying 103).map (fun d => match d with | .struct fs => fs.toList.map (fun f => (f.name, f.type, f.offset)) | _ => []) = some [("from", 2, 0), ("to", 2, 1)] := by kernel_rfl
  have hi : Tryz.prog.underlying 2 = some (.int .i64) := by kernel_rfl
  have hci : Tryz.prog.cellsOf 2 = 1 := by kernel_rfl
  cases hd : Tryz.prog.underlying 103 with
  | none => rw [hd] at hu; simp at hu
  | some d =>
    rw [hd] at hu
    simp only [Option.map_some, Option.some.injEq] at hu
    cases d <;> try (cases hu; done)
    rename_i fs
    obtain ⟨fs⟩ := fs
    obtain ⟨f0, r0, e0, h0, hu⟩ := List.map_eq_cons_iff.1 hu
    obtain ⟨f1, r1, e1, h1, hu⟩ := List.map_eq_cons_iff.1 hu
    obtain rfl := List.map_eq_nil_iff.1 hu
    subst e1
    have e0' : fs = [f0, f1] := e0
    subst e0'
    simp only [Prod.mk.injEq] at h0 h1
    obtain ⟨n0, t0, o0⟩ := h0
    obtain ⟨n1, t1, o1⟩ := h1
    unfold Program.keyLits
    simp only [hd]
    rw [if_pos ⟨by rw [cellsK]; rfl, by simp [n0, n1]⟩]
    simp [t0, t1, o0, o1, hci, Program.keyLits, hi, ha, hb]
theorem wf {x : Int} (h : 0 ≤ x ∧ x < 1000000000000000) : (Lit.int .i64 x).wf = true := by
  simp [Lit.wf, IntKind.min, IntKind.max, IntKind.bits, IntKind.signed]
  omega
theorem key {p : Int × Int} (h : Rg p) : ∃ l, keyOf Tryz.prog 103 (kv p) = some l := by
  have hts : Tryz.prog.types.size = 227 := by kernel_rfl
  obtain ⟨ls, hl⟩ := lits p.1 p.2 (wf h.1) (wf h.2) (227 - 1)
  obtain ⟨q, hq⟩ : ∃ q, (227 - 1 + 1 + 1 : Nat) = q := ⟨_, rfl⟩
  rw [hq] at hl
  have hk := keyType
  have hc := cellsK
  have hu := uK
  cases hd : Tryz.prog.underlying 103 with
  | none => rw [hd] at hu; cases hu
  | some d =>
    rw [hd] at hu
    refine ⟨.string (keyBytes ls), ?_⟩
    unfold keyOf
    rw [hd, hts, show (227 + 1 : Nat) = q from hq]
    clear hq
    cases d <;> simp at hu <;> simp [hk, Value.formed, hd, hc, kv, Value.cells, hl]
theorem At.find {w : World} {b : Nat} {E : List Ent} {es : Array MapEntry} (he : es.toList.map (fun x => (x.key, x.val)) = E.map (fun p => (kv p.1, p.2))) (hr : ∀ p ∈ E, Rg p.1) : ∀ e ∈ es.toList, ∃ l, keyOf Tryz.prog 103 e.key = some l := fun e hm => by
  have : (e.key, e.val) ∈ E.map (fun p => (kv p.1, p.2)) := by rw [← he]; exact List.mem_map.2 ⟨e, hm, rfl⟩
  obtain ⟨p, hp, e2⟩ := List.mem_map.1 this
  simp at e2
  rw [← e2.1]
  exact key (hr p hp)
/-- One entry more, at a key that is not there. -/
theorem At.put {w : World} {b : Nat} {E : List Ent} {p : Int × Int} (h : At w b E) (hp : Rg p) (hn : p ∉ E.map (·.1)) (v : Value) :
    ∃ o, (Instr.mapUpdate 51 (.map (some b)) (kv p) v).run Tryz.prog w = .ok () (setBlock w b o) ∧ At (setBlock w b o) b (E ++ [(p, v)]) ∧ (∀ i, i ≠ b → (setBlock w b o).heap[i]? = w.heap[i]?) ∧ (setBlock w b o).heap.size = w.heap.size := by
  have ht : Tryz.prog.underlying 51 = some (.map 103 101) := by kernel_rfl
  obtain ⟨es, clock, hb, hs, he, hr⟩ := h
  obtain ⟨l, hl⟩ := key hp
  have hne : ∀ e ∈ es.toList, e.key ≠ kv p := fun e hm e2 => by
    have : (e.key, e.val) ∈ E.map (fun p => (kv p.1, p.2)) := by rw [← he]; exact List.mem_map.2 ⟨e, hm, rfl⟩
    obtain ⟨q, hq, e3⟩ := List.mem_map.1 this
    simp at e3
    rw [← e3.1] at e2
    exact hn (List.mem_map.2 ⟨q, hq, kv_inj e2⟩)
  rcases law.find w hl es.toList (At.find (w := w) (b := b) he hr) with ⟨h1, _⟩ | ⟨j, e, h1, h2, h3⟩
  · refine ⟨.map (es.push ⟨kv p, v, clock⟩) (clock + 1), ?_, ⟨_, _, heap_setBlock_same hb _, stamped_push hs hne, ?_, ?_⟩, fun i hi => heap_setBlock_other hb _ hi, by simp [setBlock]⟩
    · simp [Instr.mapUpdate, run_underlying ht, MapKept.run_getObj_map hb, law.check w false hl, h1, MapKept.run_setObj_map _ hb, Result.andThen, setBlock]
    · simp [he]
    · intro q hq
      rcases List.mem_append.1 hq with hq | hq
      · exact hr q hq
      · simp at hq
        rw [hq]
        exact hp
  · exact absurd h3 (hne e (List.mem_of_getElem? h2))
/-- What lies at a key. -/
theorem At.get {w : World} {b : Nat} {E : List Ent} {p : Int × Int} {v : Value} (h : At w b E) (hm : (p, v) ∈ E) :
    (Instr.lookup 51 (.map (some b)) (kv p) false).run Tryz.prog w = .ok v w := by
  have ht : Tryz.prog.underlying 51 = some (.map 103 101) := by kernel_rfl
  have hk := h.keys
  obtain ⟨es, clock, hb, hs, he, hr⟩ := h
  obtain ⟨l, hl⟩ := key (hr _ hm)
  have hin : (kv p, v) ∈ es.toList.map (fun x => (x.key, x.val)) := by rw [he]; exact List.mem_map.2 ⟨(p, v), hm, rfl⟩
  obtain ⟨e0, hm0, e1⟩ := List.mem_map.1 hin
  simp at e1
  rcases law.find w hl es.toList (At.find (w := w) (b := b) he hr) with ⟨_, h2⟩ | ⟨j, e, h1, h2, h3⟩
  · exact absurd e1.1 (h2 e0 hm0)
  · have hme := List.mem_of_getElem? h2
    have : e = e0 := entry_eq_of_key (((MapKept.stamped_iff es clock).1 hs).2.2) hme hm0 (h3.trans e1.1.symm)
    simp [Instr.lookup, run_underlying ht, MapKept.run_getObj_map hb, law.check w _ hl, h1, Result.andThen, this, e1.2]
end Mp
end Go.Proofs.YtfgckeoigkoflaaGreatDoor
/- The flows of a drawn process stand in order: by the node they leave, then by the node they reach. -/
namespace Go.Proofs.YtfgckeoigkoflaaGreatDoor
set_option linter.unusedVariables false
namespace Gr
open Nd (NodeD)
open Gn (GNodeD)
open Fl (FlowD)
open St (StepD)
open Pf (PJ kidsL pFault)
def ltF (x y : FlowD) : Prop := x.src < y.src ∨ (x.src = y.src ∧ x.dst < y.dst)
def Srt (l : List FlowD) : Prop := l.Pairwise ltF
theorem link_nil (x : FlowD) : linkL [] x = [x] := rfl
theorem link_cons (f : FlowD) (r : List FlowD) (x : FlowD) : linkL (f :: r) x = if f.src ≤ x.src then f :: linkL r x else x :: f :: r := by
  unfold linkL
  by_cases h : f.src ≤ x.src
  · rw [if_pos h]
    have e : pref x.src (f :: r) = pref x.src r + 1 := by rw [pref, if_pos h]
    rw [e]
    simp
  · rw [if_neg h]
    have e : pref x.src (f :: r) = 0 := by rw [pref, if_neg h]
    rw [e]
    simp
theorem link_mem {x y : FlowD} : ∀ {fl : List FlowD}, y ∈ linkL fl x ↔ y = x ∨ y ∈ fl
  | [] => by rw [link_nil]; simp
  | f :: r => by
    rw [link_cons]
    have ih := link_mem (x := x) (y := y) (fl := r)
    split
    · rw [List.mem_cons, ih, List.mem_cons]
      constructor
      · rintro (h | h | h)
        · exact .inr (.inl h)
        · exact .inl h
        · exact .inr (.inr h)
      · rintro (h | h | h)
        · exact .inr (.inl h)
        · exact .inl h
        · exact .inr (.inr h)
    · rw [List.mem_cons]
theorem link_srt {x : FlowD} : ∀ {fl : List FlowD}, Srt fl → (∀ y ∈ fl, y.src = x.src → y.dst < x.dst) → Srt (linkL fl x)
  | [], _, _ => by rw [link_nil]; exact List.pairwise_singleton _ _
  | f :: r, h, hx => by
    rw [link_cons]
    obtain ⟨h1, h2⟩ := List.pairwise_cons.1 h
    have ih := link_srt (x := x) (fl := r) h2 (fun y hy => hx y (List.mem_cons_of_mem _ hy))
    by_cases hf : f.src ≤ x.src
    · rw [if_pos hf]
      refine List.pairwise_cons.2 ⟨fun y hy => ?_, ih⟩
      rcases link_mem.1 hy with e | hy
      · subst e
        have := hx f List.mem_cons_self
        unfold ltF
        omega
      · exact h1 y hy
    · rw [if_neg hf]
      refine List.pairwise_cons.2 ⟨fun y hy => ?_, h⟩
      rcases List.mem_cons.1 hy with e | hy
      · subst e; unfold ltF; omega
      · have := h1 y hy
        unfold ltF at *
        omega
structure Good (g : GraphD) : Prop where
  srt : Srt g.flows
  bd : ∀ y ∈ g.flows, y.src < (g.nodes.length : Int) ∧ y.dst < (g.nodes.length : Int)
def Hi (n n' o : Nat) (y : FlowD) : Prop := (n : Int) ≤ y.src ∧ y.src < (n' : Int) ∧ y.src ≠ (o : Int) ∧ (n : Int) ≤ y.dst ∧ y.dst < (n' : Int)
structure Ord (g g' : GraphD) (i o : Nat) : Prop where
  lt : g.nodes.length < g'.nodes.length
  i : i = g.nodes.length
  o1 : g.nodes.length ≤ o
  o2 : o < g'.nodes.length
  srt : Srt g'.flows
  fl : ∀ y ∈ g'.flows, y ∈ g.flows ∨ Hi g.nodes.length g'.nodes.length o y
theorem Good.addN {g : GraphD} (h : Good g) (x : GNodeD) : Good (addN g x) := ⟨h.srt, fun y hy => by have := h.bd y hy; rw [addN_n]; omega⟩
theorem Ord.good {g g' : GraphD} {i o : Nat} (h : Ord g g' i o) (hg : Good g) : Good g' := ⟨h.srt, fun y hy => by
  have := h.lt
  rcases h.fl y hy with e | e
  · have := hg.bd y e; omega
  · unfold Hi at e; omega⟩
theorem lone_ord {g : GraphD} (hg : Good g) (x : GNodeD) : Ord g (addN g x) g.nodes.length g.nodes.length :=
  ⟨by rw [addN_n]; omega, rfl, Nat.le_refl _, by rw [addN_n]; omega, hg.srt, fun y hy => .inl hy⟩
/-- One step behind what has been drawn. -/
theorem seq_ord {g g1 g2 : GraphD} {i o i2 o2 : Nat} (hg : Good g) (h1 : Ord g g1 i o) (h2 : Ord g1 g2 i2 o2) (c : List NodeD) : Ord g (addF g2 ⟨(o : Int), (i2 : Int), c⟩) i o2 := by
  have a1 := h1.lt; have a2 := h1.o1; have a3 := h1.o2; have b1 := h2.lt; have b2 := h2.o1; have b3 := h2.o2; have b4 := h2.i
  refine ⟨?_, h1.i, ?_, ?_, ?_, ?_⟩
  · rw [addF_n]; omega
  · omega
  · rw [addF_n]; omega
  · refine link_srt h2.srt (fun y hy e => ?_)
    simp only at e
    rcases h2.fl y hy with q | q
    · rcases h1.fl y q with q | q
      · have := hg.bd y q; omega
      · unfold Hi at q; omega
    · unfold Hi at q; omega
  · intro y hy
    rw [addF_n]
    rcases link_mem.1 hy with e | hy
    · subst e
      refine .inr ?_
      unfold Hi
      simp only
      omega
    · rcases h2.fl y hy with q | q
      · rcases h1.fl y q with q | q
        · exact .inl q
        · refine .inr ?_
          unfold Hi at *
          omega
      · refine .inr ?_
        unfold Hi at *
        omega
end Gr
end Go.Proofs.YtfgckeoigkoflaaGreatDoor
/- A graph under way, as the program draws it: nodes that are pointed at, flows in a map. -/
namespace Go.Proofs.YtfgckeoigkoflaaGreatDoor
open Go.RowKit
set_option linter.unusedVariables false
namespace Gr
open Ex (hid nvals at_of_owns owns_keep)
open Nd (NodeD)
open Gn (GNodeD)
open Fl (FlowD)
open Nst (own)
def nvN (n : GNodeD) (ve : Value) (j : Nat) : Array Value := #[.int .i64 n.kind, .int .i64 n.step, .string n.name, .int .i64 n.arg, ve, .int .i64 (j : Int)]
/-- A node that knows its place, in a block of its own. -/
def NodeAt (w : World) (D p : Nat) (n : GNodeD) (ve : Value) (j : Nat) : Prop := D < p ∧ w.heap[p]? = some (.cells (nvN n ve j) 96 (0, 0))
/-- The node of that place is pointed at. -/
def PtN (w : World) (D p n : Nat) : Prop := ∃ x ve, NodeAt w D p x ve n
def fent (f : FlowD) (vc : Value) : Mp.Ent := ((f.src, f.dst), .agg #[.int .i64 f.src, .int .i64 f.dst, vc])
def ptrs (pn : Nat → Nat) (n : Nat) : List Value := (List.range n).map fun j => .pointer (some ⟨pn j, 0, none⟩)
theorem ptrs_succ (pn : Nat → Nat) (n : Nat) : ptrs pn (n + 1) = ptrs pn n ++ [.pointer (some ⟨pn n, 0, none⟩)] := by simp [ptrs, List.range_succ]
theorem ptrs_congr {p q : Nat → Nat} {n : Nat} (h : ∀ j, j < n → p j = q j) : ptrs p n = ptrs q n := by
  unfold ptrs
  refine List.map_congr_left (fun j hj => ?_)
  rw [h j (List.mem_range.1 hj)]
theorem ptrs_len (pn : Nat → Nat) (n : Nat) : (ptrs pn n).length = n := by simp [ptrs]
structure DBx (w : World) (D : Nat) (u vn : Value) (M : Nat) (pn : Nat → Nat) (E : Nat → Value) (fs : List (FlowD × Value)) (g : GraphD) : Prop where
  box : w.heap[D]? = some (.cells #[u, vn, .map (some M)] 54 (0, 0))
  row : w.ownsRow (D + 1) 55 1 vn g.nodes.length (ptrs pn g.nodes.length)
  node : ∀ j, j < g.nodes.length → NodeAt w D (pn j) (NJ g.nodes j) (E j) j
  expr : ∀ j, j < g.nodes.length → w.ownsRow (D + 1) 115 4 (E j) (NJ g.nodes j).expr.length (nvals (NJ g.nodes j).expr)
  mlt : D ≠ M ∧ D ≤ M + 1
  mp : Mp.At w M (fs.map fun p => fent p.1 p.2)
  perm : (fs.map (·.1)).Perm g.flows
  cond : ∀ p ∈ fs, w.ownsRow (D + 1) 115 4 p.2 p.1.cond.length (nvals p.1.cond)
  sepE : ∀ i j, i < g.nodes.length → j < g.nodes.length → i ≠ j → ∀ b, own (E i) b → ¬ own (E j) b
  sepF : fs.Pairwise (fun p q => ∀ b, own p.2 b → ¬ own q.2 b)
  sepX : ∀ i, i < g.nodes.length → ∀ p ∈ fs, ∀ b, own (E i) b → ¬ own p.2 b
/-- The blocks that turn while a graph is drawn, beside D. -/
def DB (w : World) (D : Nat) (S : Nat → Prop) (u : Value) (g : GraphD) : Prop := ∃ vn M pn E fs, DBx w D u vn M pn E fs g ∧ ∀ b, S b ↔ b = M ∨ own vn b
theorem DBx.lt {w : World} {D M : Nat} {u vn : Value} {pn : Nat → Nat} {E : Nat → Value} {fs : List (FlowD × Value)} {g : GraphD} (h : DBx w D u vn M pn E fs g) : D < w.heap.size := (Array.getElem?_eq_some_iff.1 h.box).1
/-- All that is there stays where each block from D on stays. -/
theorem DBx.keep {w w' : World} {D M : Nat} {u vn : Value} {pn : Nat → Nat} {E : Nat → Value} {fs : List (FlowD × Value)} {g : GraphD} (h : DBx w D u vn M pn E fs g) (hb : ∀ b, b < w.heap.size → w'.heap[b]? = w.heap[b]?) : DBx w' D u vn M pn E fs g where
  box := (hb D h.lt).trans h.box
  row := Nst.own_kept h.row (fun b e => hb b (Nst.own_lt h.row e).2)
  node := fun j hj => ⟨(h.node j hj).1, (hb _ (Array.getElem?_eq_some_iff.1 (h.node j hj).2).1).trans (h.node j hj).2⟩
  expr := fun j hj => Nst.own_kept (h.expr j hj) (fun b e => hb b (Nst.own_lt (h.expr j hj) e).2)
  mlt := h.mlt
  mp := h.mp.keep (hb M h.mp.lt)
  perm := h.perm
  cond := fun p hp => Nst.own_kept (h.cond p hp) (fun b e => hb b (Nst.own_lt (h.cond p hp) e).2)
  sepE := h.sepE
  sepF := h.sepF
  sepX := h.sepX
theorem DB.lt {w : World} {D : Nat} {S : Nat → Prop} {u : Value} {g : GraphD} (h : DB w D S u g) : D < w.heap.size := by
  obtain ⟨vn, M, pn, E, fs, h, _⟩ := h
  exact h.lt
theorem DB.below {w w' : World} {D : Nat} {S : Nat → Prop} {u : Value} {g : GraphD} (h : DB w D S u g) (hb : Below w.heap.size w w') : DB w' D S u g := by
  obtain ⟨vn, M, pn, E, fs, h, hS⟩ := h
  exact ⟨vn, M, pn, E, fs, h.keep (fun b hl => hb.block b hl), hS⟩
theorem DB.owns {w : World} {D : Nat} {S : Nat → Prop} {u : Value} {g : GraphD} (h : DB w D S u g) : ∀ b, S b → D ≤ b + 1 ∧ b < w.heap.size := by
  obtain ⟨vn, M, pn, E, fs, h, hS⟩ := h
  intro b e
  rcases (hS b).1 e with rfl | e
  · exact ⟨h.mlt.2, h.mp.lt⟩
  · have := Nst.own_lt h.row e
    omega
/-- What is pointed at does not turn. -/
theorem DBx.pt_ne {w : World} {D M p n : Nat} {u vn : Value} {pn : Nat → Nat} {E : Nat → Value} {fs : List (FlowD × Value)} {g : GraphD} (h : DBx w D u vn M pn E fs g) (hp : PtN w D p n) : ¬ (p = M ∨ own vn p) := by
  obtain ⟨x, ve, h1, h2⟩ := hp
  rintro (e | e)
  · subst e
    obtain ⟨es, cl, h3, _⟩ := h.mp
    rw [h3] at h2
    cases h2
  · obtain ⟨h3, ⟨rfl, _⟩ | ⟨gg, cap, cur, rfl, _, h4, _⟩⟩ := h.row
    · cases e
    · obtain rfl : gg = p := Option.some.inj e
      rw [h4] at h2
      have := Option.some.inj h2
      simp at this
theorem PtN.fr {w w' : World} {D p n : Nat} {S S' : Nat → Prop} {u : Value} {g : GraphD} (hp : PtN w D p n) (h : DB w D S u g) (hf : Fr w w' D S S') : PtN w' D p n := by
  obtain ⟨vn, M, pn, E, fs, h, hS⟩ := h
  have hn := h.pt_ne hp
  obtain ⟨x, ve, h1, h2⟩ := hp
  exact ⟨x, ve, h1, (hf.blk p (Array.getElem?_eq_some_iff.1 h2).1 (by omega) (fun e => hn ((hS p).1 e))).trans h2⟩
theorem PtN.below {w w' : World} {D p n : Nat} (hp : PtN w D p n) (hb : Below w.heap.size w w') : PtN w' D p n := by
  obtain ⟨x, ve, h1, h2⟩ := hp
  exact ⟨x, ve, h1, (hb.block p (Array.getElem?_eq_some_iff.1 h2).1).trans h2⟩
theorem PtN.cell {w : World} {D p n : Nat} (hp : PtN w D p n) : w.cell? ⟨p, 5, none⟩ = some (.int .i64 (n : Int)) := by
  obtain ⟨x, ve, h1, h2⟩ := hp
  simp [World.cell?, h2, nvN]
theorem PtN.lt {w : World} {D p n : Nat} (hp : PtN w D p n) : D < p ∧ p < w.heap.size := by
  obtain ⟨x, ve, h1, h2⟩ := hp
  exact ⟨h1, (Array.getElem?_eq_some_iff.1 h2).1⟩
/-- One more node, behind all others. -/
theorem drawn_node {w0 w1 wa w2 : World} {D M p cp : Nat} {u vn ve : Value} {pn : Nat → Nat} {E : Nat → Value} {fs : List (FlowD × Value)} {g : GraphD} {x : GNodeD} {ad : Option Addr} (h : DBx w0 D u vn M pn E fs g) (h1 : Below w0.heap.size w0 w1) (ha : Below w1.heap.size w1 wa)
    (hp0 : w0.heap.size ≤ p) (hp : w1.heap[p]? = some (.cells (nvN x ve g.nodes.length) 96 (0, 0))) (he : w1.ownsRow w0.heap.size 115 4 ve x.expr.length (nvals x.expr))
    (hown : w2.ownsRow (D + 1) 55 1 (.slice ad (g.nodes.length + 1) cp) (g.nodes.length + 1) (ptrs pn g.nodes.length ++ [.pointer (some ⟨p, 0, none⟩)])) (hg : wa.grownBy w2 vn.ownBlock)
    (hat : (Value.slice ad (g.nodes.length + 1) cp).ownBlock = vn.ownBlock ∨ (Value.slice ad (g.nodes.length + 1) cp).ownBlock = some wa.heap.size) :
    ∃ S', DB (w2.setCell ⟨D, 1, none⟩ (.slice ad (g.nodes.length + 1) cp)) D S' u ⟨g.nodes ++ [x], g.flows⟩ ∧ Fr w0 (w2.setCell ⟨D, 1, none⟩ (.slice ad (g.nodes.length + 1) cp)) D (fun b => b = M ∨ own vn b) S' ∧ PtN (w2.setCell ⟨D, 1, none⟩ (.slice ad (g.nodes.length + 1) cp)) D p g.nodes.length := by
  have hz := h1.size
  have hza := ha.size
  have hz2 := hg.size
  have hD := h.lt
  have hvn : ∀ b, own vn b → D < b ∧ b < w0.heap.size := fun b e => by
    have := Nst.own_lt h.row e
    omega
  have hset : ∀ b, b ≠ D → (w2.setCell ⟨D, 1, none⟩ (.slice ad (g.nodes.length + 1) cp)).heap[b]? = w2.heap[b]? := fun b hb => Below.heap_setCell _ _ _ _ (by dsimp only; omega)
  have k1 : ∀ b, b < w1.heap.size → b ≠ D → ¬ own vn b → (w2.setCell ⟨D, 1, none⟩ (.slice ad (g.nodes.length + 1) cp)).heap[b]? = w1.heap[b]? := fun b hb hd hn => (hset b hd).trans ((hg.block b (by omega) (fun e => hn e.symm)).trans (ha.block b hb))
  have k0 : ∀ b, b < w0.heap.size → b ≠ D → ¬ own vn b → (w2.setCell ⟨D, 1, none⟩ (.slice ad (g.nodes.length + 1) cp)).heap[b]? = w0.heap[b]? := fun b hb hd hn => (k1 b (by omega) hd hn).trans (h1.block b hb)
  have hpl : p < w1.heap.size := (Array.getElem?_eq_some_iff.1 hp).1
  have hss : (w2.setCell ⟨D, 1, none⟩ (.slice ad (g.nodes.length + 1) cp)).heap.size = w2.heap.size := by simp [World.setCell]
  have hvt : ∀ b, own vn b → ∃ cur, w0.heap[b]? = some (.cells cur 55 (0, 0)) := fun b e => by
    obtain ⟨h3, ⟨rfl, _⟩ | ⟨gg, cap, cur, rfl, _, h4, _⟩⟩ := h.row
    · cases e
    · obtain rfl : gg = b := Option.some.inj e
      exact ⟨cur, h4⟩
  have nrow : ∀ {v : Value} {k : Nat} {xs : List Value}, w0.ownsRow (D + 1) 115 4 v k xs → ∀ b, own v b → ¬ own vn b := fun {v k xs} hr b e e2 => by
    obtain ⟨cur, h5⟩ := hvt b e2
    obtain ⟨h3, ⟨rfl, _⟩ | ⟨gg, cap, cu, rfl, _, h4, _⟩⟩ := hr
    · cases e
    · obtain rfl : gg = b := Option.some.inj e
      rw [h4] at h5
      have := Option.some.inj h5
      simp at this
  have rowk : ∀ {v : Value} {k : Nat} {xs : List Value}, w0.ownsRow (D + 1) 115 4 v k xs → (w2.setCell ⟨D, 1, none⟩ (.slice ad (g.nodes.length + 1) cp)).ownsRow (D + 1) 115 4 v k xs := fun {v k xs} hr => Nst.own_kept hr (fun b e => by
    have := Nst.own_lt hr e
    exact k0 b this.2 (by omega) (nrow hr b e))
  have hve : ∀ b, own ve b → w0.heap.size ≤ b ∧ b < w1.heap.size := fun b e => Nst.own_lt he e
  have hven : ∀ b, own ve b → ¬ own vn b := fun b e e2 => by have := hve b e; have := hvn b e2; omega
  have hnode : NodeAt (w2.setCell ⟨D, 1, none⟩ (.slice ad (g.nodes.length + 1) cp)) D p x ve g.nodes.length := ⟨by omega, (k1 p hpl (by omega) (fun e => by have := hvn p e; omega)).trans hp⟩
  refine ⟨fun b => b = M ∨ own (.slice ad (g.nodes.length + 1) cp) b, ⟨.slice ad (g.nodes.length + 1) cp, M, fun j => if j = g.nodes.length then p else pn j, fun j => if j = g.nodes.length then ve else E j, fs, ?_, fun b => Iff.rfl⟩, ?_, ⟨x, ve, hnode⟩⟩
  · have hl : (g.nodes ++ [x]).length = g.nodes.length + 1 := by simp
    have hDn : w2.heap[D]? = w0.heap[D]? := (hg.block D (by omega) (fun e => by have := hvn D e.symm; omega)).trans ((ha.block D (by omega)).trans (h1.block D hD))
    refine ⟨?_, ?_, fun j hj => ?_, fun j hj => ?_, h.mlt, h.mp.keep (k0 M h.mp.lt (by have := h.mlt; omega) (fun e => ?_)), h.perm, fun q hq => rowk (h.cond q hq), fun i j hi hj hij b e1 e2 => ?_, h.sepF, fun i hi q hq b e1 e2 => ?_⟩
    · rw [h.box] at hDn
      simp [World.setCell, Array.getElem?_modify, hDn]
    · show World.ownsRow _ (D + 1) _ 1 _ (g.nodes ++ [x]).length _
      rw [hl, ptrs_succ, if_pos rfl, ptrs_congr (q := pn) (fun j hj => if_neg (by omega))]
      refine Nst.own_kept hown (fun b e => hset b ?_)
      have := Nst.own_lt hown e
      omega
    · have hj' : j < g.nodes.length + 1 := by rw [← hl]; exact hj
      show NodeAt _ D _ (NJ (g.nodes ++ [x]) j) _ j
      by_cases e : j = g.nodes.length
      · subst e
        rw [if_pos rfl, if_pos rfl, NJ_last]
        exact hnode
      · have hlt : j < g.nodes.length := by omega
        rw [if_neg e, if_neg e, NJ_left hlt]
        have hq := h.node j hlt
        have := h.pt_ne (p := pn j) (n := j) ⟨_, _, hq⟩
        exact ⟨hq.1, (k0 _ (Array.getElem?_eq_some_iff.1 hq.2).1 (by have := hq.1; omega) (fun e => this (.inr e))).trans hq.2⟩
    · have hj' : j < g.nodes.length + 1 := by rw [← hl]; exact hj
      show World.ownsRow _ (D + 1) _ 4 _ (NJ (g.nodes ++ [x]) j).expr.length (nvals (NJ (g.nodes ++ [x]) j).expr)
      by_cases e : j = g.nodes.length
      · subst e
        rw [if_pos rfl, NJ_last]
        exact Nst.own_kept (Nst.own_mono he (by omega)) (fun b e => k1 b (hve b e).2 (by have := (hve b e).1; omega) (hven b e))
      · have hlt : j < g.nodes.length := by omega
        rw [if_neg e, NJ_left hlt]
        exact rowk (h.expr j hlt)
    · obtain ⟨cur, h5⟩ := hvt M e
      obtain ⟨es, cl, h6, _⟩ := h.mp
      rw [h6] at h5
      cases h5
    · have hi' : i < g.nodes.length + 1 := by rw [← hl]; exact hi
      have hj' : j < g.nodes.length + 1 := by rw [← hl]; exact hj
      have e1' : own (if i = g.nodes.length then ve else E i) b := e1
      have e2' : own (if j = g.nodes.length then ve else E j) b := e2
      by_cases ei : i = g.nodes.length
      · rw [if_pos ei] at e1'
        rw [if_neg (by omega)] at e2'
        have := Nst.own_lt (h.expr j (by omega)) e2'
        have := hve b e1'
        omega
      · rw [if_neg ei] at e1'
        by_cases ej : j = g.nodes.length
        · rw [if_pos ej] at e2'
          have := Nst.own_lt (h.expr i (by omega)) e1'
          have := hve b e2'
          omega
        · rw [if_neg ej] at e2'
          exact h.sepE i j (by omega) (by omega) hij b e1' e2'
    · have hi' : i < g.nodes.length + 1 := by rw [← hl]; exact hi
      have e1' : own (if i = g.nodes.length then ve else E i) b := e1
      by_cases ei : i = g.nodes.length
      · rw [if_pos ei] at e1'
        have := Nst.own_lt (h.cond q hq) e2
        have := hve b e1'
        omega
      · rw [if_neg ei] at e1'
        exact h.sepX i (by omega) q hq b e1' e2
  · refine ⟨hg.os.trans (ha.os.trans h1.os), hg.tape.trans (ha.tape.trans h1.tape), hg.output.trans (ha.output.trans h1.output), by omega, fun b hb hd hn => k0 b hb hd (fun e => hn (.inr e)), fun b hb => ?_⟩
    rcases hb with e | e
    · exact .inl (.inl e)
    · rcases hat with e2 | e2
      · exact .inl (.inr (by unfold own; rw [← e2]; exact e))
      · have : (Value.slice ad (g.nodes.length + 1) cp).ownBlock = some b := e
        rw [e2] at this
        have := Option.some.inj this
        exact .inr (by omega)
theorem link_perm (fl : List FlowD) (x : FlowD) : (linkL fl x).Perm (x :: fl) := by
  unfold linkL
  have h : (fl.take (pref x.src fl) ++ [x] ++ fl.drop (pref x.src fl)).Perm (x :: (fl.take (pref x.src fl) ++ fl.drop (pref x.src fl))) := by
    rw [List.append_assoc]
    exact List.perm_middle
  rwa [List.take_append_drop] at h
theorem ltF_ne {x y : FlowD} (h : ltF x y) : (x.src, x.dst) ≠ (y.src, y.dst) := fun e => by
  simp at e
  unfold ltF at h
  omega
/-- A flow that is put into its place among flows that rise is a new one. -/
theorem link_new {fl : List FlowD} {x : FlowD} (h : Srt (linkL fl x)) : ∀ y ∈ fl, (y.src, y.dst) ≠ (x.src, x.dst) := fun y hy => by
  have h2 : (linkL fl x).Pairwise (fun a b => (a.src, a.dst) ≠ (b.src, b.dst)) := List.Pairwise.imp (fun {a b} h => ltF_ne h) h
  have h3 : (x :: fl).Pairwise (fun a b => (a.src, a.dst) ≠ (b.src, b.dst)) := ((link_perm fl x).pairwise_iff (fun {a b} h e => h e.symm)).1 h2
  exact fun e => (List.pairwise_cons.1 h3).1 y hy e.symm
open Go.ChangeMaps (setBlock)
/-- One more flow, in the map. -/
theorem drawn_flow {w0 w1 : World} {D M : Nat} {u vn vc : Value} {pn : Nat → Nat} {E : Nat → Value} {fs : List (FlowD × Value)} {g : GraphD} {x : FlowD} {o : Obj} (h : DBx w0 D u vn M pn E fs g) (h1 : Below w0.heap.size w0 w1)
    (hc : w1.ownsRow w0.heap.size 115 4 vc x.cond.length (nvals x.cond)) (hm : Mp.At (setBlock w1 M o) M ((fs.map fun p => fent p.1 p.2) ++ [fent x vc])) (hk : ∀ i, i ≠ M → (setBlock w1 M o).heap[i]? = w1.heap[i]?) (hsz : (setBlock w1 M o).heap.size = w1.heap.size) :
    DB (setBlock w1 M o) D (fun b => b = M ∨ own vn b) u ⟨g.nodes, linkL g.flows x⟩ ∧ Fr w0 (setBlock w1 M o) D (fun b => b = M ∨ own vn b) (fun b => b = M ∨ own vn b) := by
  have hz := h1.size
  have hD := h.lt
  have k0 : ∀ b, b < w0.heap.size → b ≠ M → (setBlock w1 M o).heap[b]? = w0.heap[b]? := fun b hb hd => (hk b hd).trans (h1.block b hb)
  have nm : ∀ {e : TypeId} {sz : Nat} {B : Nat} {v : Value} {k : Nat} {xs : List Value}, w0.ownsRow B e sz v k xs → ∀ b, own v b → b ≠ M := fun {e sz B v k xs} hr b e1 e2 => by
    subst e2
    obtain ⟨es, cl, h6, _⟩ := h.mp
    obtain ⟨h3, ⟨rfl, _⟩ | ⟨gg, cap, cu, rfl, _, h4, _⟩⟩ := hr
    · cases e1
    · obtain rfl : gg = b := Option.some.inj e1
      rw [h4] at h6
      cases h6
  have rowk : ∀ {e : TypeId} {sz : Nat} {B : Nat} {v : Value} {k : Nat} {xs : List Value}, w0.ownsRow B e sz v k xs → (setBlock w1 M o).ownsRow B e sz v k xs := fun {e sz B v k xs} hr => Nst.own_kept hr (fun b e1 => k0 b (Nst.own_lt hr e1).2 (nm hr b e1))
  have hvc : ∀ b, own vc b → w0.heap.size ≤ b ∧ b < w1.heap.size := fun b e => Nst.own_lt hc e
  have hMl := h.mp.lt
  refine ⟨⟨vn, M, pn, E, fs ++ [(x, vc)], ⟨(k0 D hD (by have := h.mlt; omega)).trans h.box, rowk h.row, fun j hj => ?_, fun j hj => rowk (h.expr j hj), h.mlt, ?_, ?_, fun p hp => ?_, h.sepE, ?_, fun i hi p hp b e1 e2 => ?_⟩, fun b => Iff.rfl⟩, ⟨h1.os, h1.tape, h1.output, by omega, fun b hb hd hn => k0 b hb (fun e => hn (.inl e)), fun b hb => .inl hb⟩⟩
  · have hq := h.node j hj
    exact ⟨hq.1, (k0 _ (Array.getElem?_eq_some_iff.1 hq.2).1 (fun e => by
      obtain ⟨es, cl, h6, _⟩ := h.mp
      have h7 := hq.2
      rw [e, h6] at h7
      cases h7)).trans hq.2⟩
  · simpa using hm
  · rw [List.map_append, List.map_singleton]
    refine (List.perm_append_singleton _ _).trans (List.Perm.trans ?_ (link_perm g.flows x).symm)
    exact h.perm.cons _
  · rcases List.mem_append.1 hp with hp | hp
    · exact rowk (h.cond p hp)
    · simp at hp
      subst hp
      exact Nst.own_kept (Nst.own_mono hc (by omega)) (fun b e => hk b (by have := (hvc b e).1; omega))
  · refine List.pairwise_append.2 ⟨h.sepF, List.pairwise_singleton _ _, fun p hp q hq b e1 e2 => ?_⟩
    simp at hq
    subst hq
    have := Nst.own_lt (h.cond p hp) e1
    have := hvc b e2
    omega
  · rcases List.mem_append.1 hp with hp | hp
    · exact h.sepX i hi p hp b e1 e2
    · simp at hp
      subst hp
      have := Nst.own_lt (h.expr i hi) e1
      have := hvc b e2
      omega
end Gr
end Go.Proofs.YtfgckeoigkoflaaGreatDoor
