/- Laid together: GoB, ApA. -/
import Derived.Test.YtfgckeoigkoflaaGreatDoorJGraphOf11
import Derived.Deep.AppendLies
import Derived.Deep.RegionLaw
import Derived.Test.YtfgckeoigkoflaaGreatDoorProg
import Derived.Deep.Upon
import Derived.Laws.OwnMore
/- A graph under way, at a pointer, as the specification draws it; one more node. -/
namespace Go.Proofs.YtfgckeoigkoflaaGreatDoor
open Go.RowKit
set_option linter.unusedVariables false
namespace Gr
open Ex (hid nvals at_of_owns owns_keep grown_cell2 grown_free2)
open Nd (NodeD)
open Gn (GNodeD)
open Fl (FlowD)
open Nst (own)
open Rc
/-- The blocks that two rows and the rows inside own. -/
def Blk (vn vf : Value) (n m : Nat) (E F : Nat → Value) (b : Nat) : Prop := own vn b ∨ (∃ j, j < n ∧ own (E j) b) ∨ own vf b ∨ ∃ j, j < m ∧ own (F j) b
/-- A graph at P, its rows behind P; S: the blocks of its rows. -/
def GB (w : World) (P : Nat) (S : Nat → Prop) (g : GraphD) : Prop :=
  ∃ vn vf E F, w.heap[P]? = some (.cells #[vn, vf] 27 (0, 0)) ∧ (∀ b, Blk vn vf g.nodes.length g.flows.length E F b → S b) ∧ GnOAt w (P + 1) vn g.nodes E ∧ FlOAt w (P + 1) vf g.flows F ∧ (∀ b, own vn b → ¬ own vf b ∧ ∀ j, j < g.flows.length → ¬ own (F j) b) ∧ ∀ b, S b → P < b ∧ b < w.heap.size
theorem GB.keep {w w' : World} {P : Nat} {S : Nat → Prop} {g : GraphD} (h : GB w P S g) (hs : w.heap.size ≤ w'.heap.size) (hb : ∀ b, b = P ∨ S b → w'.heap[b]? = w.heap[b]?) : GB w' P S g := by
  obtain ⟨vn, vf, E, F, h1, h2, h3, h4, h5, h6⟩ := h
  refine ⟨vn, vf, E, F, (hb P (.inl rfl)).trans h1, h2, h3.kept (fun b e => hb b (.inr (h2 b (.inl e)))) (fun i hi b e => hb b (.inr (h2 b (.inr (.inl ⟨i, hi, e⟩))))), h4.kept (fun b e => hb b (.inr (h2 b (.inr (.inr (.inl e)))))) (fun i hi b e => hb b (.inr (h2 b (.inr (.inr (.inr ⟨i, hi, e⟩)))))), h5, fun b e => ?_⟩
  have := h6 b e
  omega
theorem GB.lt {w : World} {P : Nat} {S : Nat → Prop} {g : GraphD} (h : GB w P S g) : P < w.heap.size := by
  obtain ⟨vn, vf, E, F, h1, _⟩ := h
  exact (Array.getElem?_eq_some_iff.1 h1).1
theorem GB.owns {w : World} {P : Nat} {S : Nat → Prop} {g : GraphD} (h : GB w P S g) : ∀ b, S b → P < b ∧ b < w.heap.size := by
  obtain ⟨vn, vf, E, F, _, _, _, _, _, h6⟩ := h
  exact h6
theorem GB.below {w w' : World} {P : Nat} {S : Nat → Prop} {g : GraphD} (h : GB w P S g) (hb : Below w.heap.size w w') : GB w' P S g := h.keep hb.size (fun b e => hb.block b (by
  rcases e with rfl | e
  · exact h.lt
  · exact (h.owns b e).2))
/-- What turns a graph at P: P itself, the block of its row of nodes, and what is new. -/
structure Fr (w w' : World) (P : Nat) (S S' : Nat → Prop) : Prop where
  os : w'.os = w.os
  tape : w'.tape = w.tape
  output : w'.output = w.output
  size : w.heap.size ≤ w'.heap.size
  blk : ∀ b, b < w.heap.size → b ≠ P → ¬ S b → w'.heap[b]? = w.heap[b]?
  new : ∀ b, S' b → S b ∨ w.heap.size ≤ b
theorem Fr.refl (w : World) (P : Nat) (S : Nat → Prop) : Fr w w P S S := ⟨rfl, rfl, rfl, Nat.le_refl _, fun _ _ _ _ => rfl, fun _ h => .inl h⟩
theorem Fr.of_below {w w' : World} {P : Nat} {S : Nat → Prop} (h : Below w.heap.size w w') : Fr w w' P S S := ⟨h.os, h.tape, h.output, h.size, fun b hb _ _ => h.block b hb, fun _ h => .inl h⟩
theorem Fr.ne {w w' : World} {P b : Nat} {S S' : Nat → Prop} (h : Fr w w' P S S') (hb : b < w.heap.size) (hN : ¬ S b) : ¬ S' b := fun e => by
  rcases h.new b e with h3 | h3
  · exact hN h3
  · omega
theorem Fr.trans {w w1 w2 : World} {P : Nat} {S S1 S2 : Nat → Prop} (h : Fr w w1 P S S1) (h2 : Fr w1 w2 P S1 S2) : Fr w w2 P S S2 := by
  refine ⟨h2.os.trans h.os, h2.tape.trans h.tape, h2.output.trans h.output, Nat.le_trans h.size h2.size, fun b hb hP hN => (h2.blk b (Nat.lt_of_lt_of_le hb h.size) hP (h.ne hb hN)).trans (h.blk b hb hP hN), fun b hb => ?_⟩
  rcases h2.new b hb with e | e
  · exact h.new b e
  · exact .inr (Nat.le_trans h.size e)
theorem Fr.below {w w' : World} {P : Nat} {S S' : Nat → Prop} (h : Fr w w' P S S') (hN : ∀ b, S b → P < b) (hP : P ≤ w.heap.size) : Below P w w' :=
  ⟨h.os, h.tape, h.output, h.size, fun b hb => h.blk b (by omega) (by omega) (fun e => by have := hN b e; omega)⟩
theorem gnflat (ss : List GNodeD) (E : Nat → Value) : (Nst.flat (fun j => gncell (NJ ss j) (E j)) ss.length).length = ss.length * 5 := Nst.flat_len _ (fun _ _ => rfl)
theorem inf_parts2 {P : Program} {e : TypeId} {z : Value} {sz bytes : Nat} (h : (P.info? e).map (fun i => (i.zero, i.size, i.bytes)) = some (some z, sz, bytes)) : ∃ i, P.info? e = some i ∧ i.zero = some z ∧ i.size = sz ∧ i.bytes = bytes := by
  cases hi : P.info? e with
  | none => rw [hi] at h; cases h
  | some i =>
    rw [hi] at h
    simp only [Option.map_some, Option.some.injEq, Prod.mk.injEq] at h
    exact ⟨i, rfl, h.1, h.2.1, h.2.2⟩
theorem node_end {w0 w1 wa w2 : World} {P gg cp : Nat} {S : Nat → Prop} {g : GraphD} {x : GNodeD} {vn vf ve : Value} {E F : Nat → Value} (hX1 : Below w0.heap.size w0 w1) (hal : Below w1.heap.size w1 wa) (hwa : wa.heap.size = w1.heap.size + 1) (hlt : P < w0.heap.size)
    (hS : ∀ b, Blk vn vf g.nodes.length g.flows.length E F b → S b) (hA : GnOAt w0 (P + 1) vn g.nodes E) (hF : FlOAt w0 (P + 1) vf g.flows F) (hX : ∀ b, own vn b → ¬ own vf b ∧ ∀ j, j < g.flows.length → ¬ own (F j) b)
    (he : w1.ownsRow w0.heap.size 115 4 ve x.expr.length (nvals x.expr)) (hP2 : w2.heap[P]? = some (.cells #[vn, vf] 27 (0, 0)))
    (hown : w2.ownsRow (P + 1) 78 5 (.slice (some ⟨gg, 0, none⟩) (g.nodes.length + 1) cp) (g.nodes.length + 1) (Nst.flat (fun j => gncell (NJ g.nodes j) (E j)) g.nodes.length ++ gncell x ve)) (hg : wa.grownBy w2 vn.ownBlock) (hat : vn.ownBlock = some gg ∨ gg = w1.heap.size + 1) :
    ∃ S', GB (w2.setCell ⟨P, 0, none⟩ (.slice (some ⟨gg, 0, none⟩) (g.nodes.length + 1) cp)) P S' ⟨g.nodes ++ [x], g.flows⟩ ∧ Fr w0 (w2.setCell ⟨P, 0, none⟩ (.slice (some ⟨gg, 0, none⟩) (g.nodes.length + 1) cp)) P S S' := by
  have hz := hX1.size
  have hblk : ∀ b, b < w0.heap.size → wa.heap[b]? = w0.heap[b]? := fun b hb => (hal.block b (by omega)).trans (hX1.block b hb)
  have hblk2 : ∀ b, b < w0.heap.size → ¬ own vn b → w2.heap[b]? = w0.heap[b]? := fun b hb hn => (hg.block b (by omega) (fun e => hn e.symm)).trans (hblk b hb)
  have hset : ∀ (u : Value) (b : Nat), b ≠ P → (w2.setCell ⟨P, 0, none⟩ u).heap[b]? = w2.heap[b]? := fun u b hb => Below.heap_setCell _ _ _ _ (by dsimp only; omega)
  have hss : (w2.setCell ⟨P, 0, none⟩ (.slice (some ⟨gg, 0, none⟩) (g.nodes.length + 1) cp)).heap.size = w2.heap.size := by simp [World.setCell]
  have hg2 := hg.size
  have hn := hA.push (w := wa) (v' := .slice (some ⟨gg, 0, none⟩) (g.nodes.length + 1) cp) (by omega) (fun b _ hb => hblk b hb) (by omega) (owns_keep he hal) hown hg (by
    rcases hat with e | e
    · exact .inl e.symm
    · right; show some gg = _; rw [e, hwa])
  have hn2 : GnOAt (w2.setCell ⟨P, 0, none⟩ (.slice (some ⟨gg, 0, none⟩) (g.nodes.length + 1) cp)) (P + 1) (.slice (some ⟨gg, 0, none⟩) (g.nodes.length + 1) cp) (g.nodes ++ [x]) (fun j => if j = g.nodes.length then ve else E j) := hn.keep (fun b hb _ => hset _ b (by omega))
  have hf2 : FlOAt (w2.setCell ⟨P, 0, none⟩ (.slice (some ⟨gg, 0, none⟩) (g.nodes.length + 1) cp)) (P + 1) vf g.flows F := hF.kept (fun b hb => by
      have hl := Nst.own_lt hF.row hb
      rw [hset _ b (by omega)]
      exact hblk2 b hl.2 (fun e => (hX b e).1 hb)) (fun i hi b hb => by
      have hl := Nst.own_lt (hF.sub i hi) hb
      rw [hset _ b (by omega)]
      exact hblk2 b hl.2 (fun e => (hX b e).2 i hi hb))
  refine ⟨Blk (.slice (some ⟨gg, 0, none⟩) (g.nodes.length + 1) cp) vf (g.nodes ++ [x]).length g.flows.length (fun j => if j = g.nodes.length then ve else E j) F, ⟨.slice (some ⟨gg, 0, none⟩) (g.nodes.length + 1) cp, vf, fun j => if j = g.nodes.length then ve else E j, F, ?_, fun _ h => h, hn2, hf2, ?_, ?_⟩, ?_⟩
  · simp [World.setCell, Array.getElem?_modify, hP2]
  · intro b hb
    obtain rfl : gg = b := Option.some.inj hb
    rcases hat with e | e
    · exact hX gg e
    · refine ⟨fun h => ?_, fun j hj h => ?_⟩
      · have := (Nst.own_lt hF.row h).2; omega
      · have := (Nst.own_lt (hF.sub j hj) h).2; omega
  · intro b hb
    rcases hb with e | ⟨j, hj, e⟩ | e | ⟨j, hj, e⟩
    · have := Nst.own_lt hn2.row e; omega
    · have := Nst.own_lt (hn2.sub j hj) e; omega
    · have := Nst.own_lt hf2.row e; omega
    · have := Nst.own_lt (hf2.sub j hj) e; omega
  · refine ⟨hg.os.trans (hal.os.trans hX1.os), hg.tape.trans (hal.tape.trans hX1.tape), hg.output.trans (hal.output.trans hX1.output), by omega, fun b hb hp hnb => ?_, fun b hb => ?_⟩
    · rw [hset _ b hp]
      exact hblk2 b hb (fun e => hnb (hS b (.inl e)))
    · rcases hb with e | ⟨j, hj, e⟩ | e | ⟨j, hj, e⟩
      · obtain rfl : gg = b := Option.some.inj e
        rcases hat with e | e
        · exact .inl (hS gg (.inl e))
        · exact .inr (by omega)
      · have e' : own (if j = g.nodes.length then ve else E j) b := e
        by_cases h1 : j = g.nodes.length
        · rw [if_pos h1] at e'
          exact .inr (Nst.own_lt he e').1
        · rw [if_neg h1] at e'
          exact .inl (hS b (.inr (.inl ⟨j, by simp at hj; omega, e'⟩)))
      · exact .inl (hS b (.inr (.inr (.inl e))))
      · exact .inl (hS b (.inr (.inr (.inr ⟨j, hj, e⟩))))
set_option maxRecDepth 100000 in
set_option maxHeartbeats 8000000 in
theorem specNode (P : Nat) (S : Nat → Prop) (g : GraphD) (x : GNodeD) (ve : Value) (w0 w : World) (h : GB w0 P S g) (hb : Below w0.heap.size w0 w) (he : w.ownsRow w0.heap.size 115 4 ve x.expr.length (nvals x.expr)) (hn : g.nodes.length ≤ 1000000000000) :
    Calls Tryz.prog 32 #[.pointer (some ⟨P, 0, none⟩), .agg #[.int .i64 x.kind, .int .i64 x.step, .string x.name, .int .i64 x.arg, ve]] w fun e w' => e = .returned (.int .i64 (g.nodes.length : Int)) ∧ ∃ S', GB w' P S' ⟨g.nodes ++ [x], g.flows⟩ ∧ Fr w0 w' P S S' := by
  obtain ⟨j0, hj, hy0, hy1, hy2⟩ := inf_parts2 Gn.infoR
  have hlt := h.lt
  have hOwn := h.owns
  obtain ⟨vn, vf, E, F, hP0, hN, hA, hF, hX, _⟩ := h
  have hP : w.heap[P]? = some (.cells #[vn, vf] 27 (0, 0)) := (hb.block P hlt).trans hP0
  obtain ⟨a, cap, rfl⟩ := Nst.own_slice hA.row
  obtain ⟨ae, ce, rfl⟩ := Nst.own_slice he
  obtain ⟨af, cf, rfl⟩ := Nst.own_slice hF.row
  have hltw : P < w.heap.size := Nat.lt_of_lt_of_le hlt hb.size
  have hb0 : Below w.heap.size w (w.alloc (.cells #[.int .i64 x.kind, .int .i64 x.step, .string x.name, .int .i64 x.arg, .slice ae x.expr.length ce] 78)) := (Below.refl _ w).alloc (Nat.le_refl _) _
  have hP1 : (w.alloc (.cells #[.int .i64 x.kind, .int .i64 x.step, .string x.name, .int .i64 x.arg, .slice ae x.expr.length ce] 78)).heap[P]? = some (.cells #[.slice a g.nodes.length cap, .slice af g.flows.length cf] 27 (0, 0)) := (hb0.block P hltw).trans hP
  have u0 : (w.alloc (.cells #[.int .i64 x.kind, .int .i64 x.step, .string x.name, .int .i64 x.arg, .slice ae x.expr.length ce] 78)).cell? ⟨P, 0, none⟩ = some (.slice a g.nodes.length cap) := by simp [World.cell?, hP1]
  have uf : (w.alloc (.cells #[.int .i64 x.kind, .int .i64 x.step, .string x.name, .int .i64 x.arg, .slice ae x.expr.length ce] 78)).frozen? ⟨P, 0, none⟩ = false := by simp [World.frozen?, hP1]
  have k0 : (w.alloc (.cells #[.int .i64 x.kind, .int .i64 x.step, .string x.name, .int .i64 x.arg, .slice ae x.expr.length ce] 78)).cell? ⟨w.heap.size, 0, none⟩ = some (.int .i64 x.kind) := by go_simp
  have k1 : (w.alloc (.cells #[.int .i64 x.kind, .int .i64 x.step, .string x.name, .int .i64 x.arg, .slice ae x.expr.length ce] 78)).cell? ⟨w.heap.size, 1, none⟩ = some (.int .i64 x.step) := by go_simp
  have k2 : (w.alloc (.cells #[.int .i64 x.kind, .int .i64 x.step, .string x.name, .int .i64 x.arg, .slice ae x.expr.length ce] 78)).cell? ⟨w.heap.size, 2, none⟩ = some (.string x.name) := by go_simp
  have k3 : (w.alloc (.cells #[.int .i64 x.kind, .int .i64 x.step, .string x.name, .int .i64 x.arg, .slice ae x.expr.length ce] 78)).cell? ⟨w.heap.size, 3, none⟩ = some (.int .i64 x.arg) := by go_simp
  have k4 : (w.alloc (.cells #[.int .i64 x.kind, .int .i64 x.step, .string x.name, .int .i64 x.arg, .slice ae x.expr.length ce] 78)).cell? ⟨w.heap.size, 4, none⟩ = some (.slice ae x.expr.length ce) := by go_simp
  have hsz : (w.alloc (.cells #[.int .i64 x.kind, .int .i64 x.step, .string x.name, .int .i64 x.arg, .slice ae x.expr.length ce] 78)).heap.size = w.heap.size + 1 := by simp
  have hneP : (Value.slice a g.nodes.length cap).ownBlock ≠ some P := fun e => by have := hOwn P (hN P (.inl e)); omega
  have hX1 := hb.trans (hb0.mono hb.size)
  have HO1 := hid (owns_keep hA.row hX1)
  have HE1 := hid (owns_keep he hb0)
  have HX1 := hid hX1
  have HZ0 := hid hb.size
  have HAT := hid hA
  have HFT := hid hF
  have HXS := hid hX
  have HN := hid hN
  have HOW := hid hOwn
  clear hP0 hP hA hF hX hb0 he hb hX1 hN hOwn
  go_enter Tryz.func32, Tryz.ntmps32
  go_wp2
  have hown1 := HO1.out
  generalize w.alloc (.cells #[.int .i64 x.kind, .int .i64 x.step, .string x.name, .int .i64 x.arg, .slice ae x.expr.length ce] 78) = w1 at *
  have hal : Below w1.heap.size w1 (w1.alloc (.cells #[.int .i64 x.kind, .int .i64 x.step, .string x.name, .int .i64 x.arg, .slice ae x.expr.length ce] 78)).drew := ((Below.refl _ w1).alloc (Nat.le_refl _) _).drew
  have hlP : P < w1.heap.size := by omega
  have HSZ := hid hsz
  have HL0 := hid hlt
  clear hsz hlt hltw
  go_region_law
    (first | (refine step_append_lies _ (by rfl) _ _ _ (by rfl) (P + 1) 78 j0 _ 5 64 Tryz.underlying24 hj hy0 hy1 hy2 rfl (by omega) (.slice a g.nodes.length cap) g.nodes.length (Nst.flat (fun j => gncell (NJ g.nodes j) (E j)) g.nodes.length) (by rfl) ((hown1.alloc _).drew) ⟨w1.heap.size, 0, none⟩ 1 1 (gncell x (.slice ae x.expr.length ce)) (by rfl) (by rfl) (World.news_of_block (cs := #[.int .i64 x.kind, .int .i64 x.step, .string x.name, .int .i64 x.arg, .slice ae x.expr.length ce]) (t := 78) (fr := (0, 0)) (heap_alloc_new w1 _)) (by simp [gncell, Value.oneCell']) (by omega) (by unfold maxLen; omega) (by omega) (by simp; omega) (w1.heap.size + 1) (by simp) ?_; intro gg cp w2 hown2 hgrow hat hlt; have z1 := grown_cell2 hgrow (old_cell hal hlP u0) hneP; have z2 := grown_free2 hgrow (by simp; omega) (old_free hal hlP uf) hneP; have HH2 : Hid (w2.heap[P]? = some (.cells #[.slice a g.nodes.length cap, .slice af g.flows.length cf] 27 (0, 0))) := hid ((hgrow.block P (by simp; omega) (Ne.symm hneP)).trans ((hal.block P hlP).trans hP1)); have HG2 := hid hgrow; have HA2 := hid hat))
  all_goals
    have HO2 := hid hown2
    have z3 : (w2.setCell ⟨P, 0, none⟩ (.slice (some ⟨gg, 0, none⟩) (g.nodes.length + 1) cp)).cell? ⟨P, 0, none⟩ = some (.slice (some ⟨gg, 0, none⟩) (g.nodes.length + 1) cp) := World.cell?_setCell_same _ _ _ z1
    clear hown2 hgrow hat hlt z1 z2 hown1 HO1 hal
    go_wp2
    go_ret
    exact ⟨by simp, node_end HX1.out (((Below.refl _ w1).alloc (Nat.le_refl _) _).drew) (by simp) HL0.out HN.out HAT.out HFT.out HXS.out HE1.out HH2.out HO2.out HG2.out HA2.out⟩
end Gr
end Go.Proofs.YtfgckeoigkoflaaGreatDoor
/- A row is appended to a row that is owned, be it empty or nil: one law, at an operation, at a plain region's list, at a step of a region that draws its order. -/
namespace Go.Proofs.YtfgckeoigkoflaaGreatDoor
open Go.RowKit
set_option linter.unusedVariables false
namespace Ap
section
variable {P : Program}
/-- A row of m elements, as an argument: empty, nil, or its cells are there. -/
def Row (w : World) (size : Nat) (x : Value) (m : Nat) (news : List Value) : Prop :=
  ∃ a c, x = .slice a m c ∧ news.length = m * size ∧ (∀ u ∈ news, u.oneCell' = true) ∧ (m = 0 ∨ ∃ ad, a = some ad ∧ ∀ (j : Nat) u, news[j]? = some u → w.cell? (ad.add j) = some u)
theorem Row.kept {w w' : World} {size m : Nat} {x : Value} {news : List Value} (h : Row w size x m news) (hk : ∀ a u, w.cell? a = some u → w'.cell? a = some u) : Row w' size x m news := by
  obtain ⟨a, c, hx, hl, h1, h2⟩ := h
  refine ⟨a, c, hx, hl, h1, ?_⟩
  rcases h2 with h2 | ⟨ad, ha, hc⟩
  · exact .inl h2
  · exact .inr ⟨ad, ha, fun j u hu => hk _ _ (hc j u hu)⟩
theorem run_any (w : World) (t ty : TypeId) (base : Nat) (e : TypeId) (i : TypeInfo) (z : Value) (size bytes : Nat) (ht : P.underlying t = some (.slice e)) (hi : P.info? e = some i) (hz : i.zero = some z)
    (hsize : i.size = size) (hby : i.bytes = bytes) (hzs : z.cells.size = size) (hsz : 0 < size)
    (v : Value) (n : Nat) (xs : List Value) (hown : w.ownsRow base e size v n xs) (x : Value) (m : Nat) (news : List Value) (hr : Row w size x m news)
    (h63 : n + m ≤ maxLen) (hbytes : (n + m) * bytes ≤ 140737488355328) (hbase : base ≤ w.heap.size) (H : Nat) (hH : w.heap.size = H) :
    ∃ a' c' w', (Builtin.append_ #[t, t] ty #[v, x]).run P w = .ok (.slice a' (n + m) c') w' ∧ w'.ownsRow base e size (.slice a' (n + m) c') (n + m) (xs ++ news) ∧ w.grownBy w' v.ownBlock ∧ ((Value.slice a' (n + m) c').ownBlock = v.ownBlock ∨ (Value.slice a' (n + m) c').ownBlock = some H) := by
  obtain ⟨a, c, rfl, hl, h1, h2⟩ := hr
  by_cases hm : m = 0
  · subst hm
    obtain rfl : news = [] := List.eq_nil_of_length_eq_zero (by simpa using hl)
    have hs : Src P i.size t (.slice a 0 c) 0 [] w := by
      cases a with
      | none => exact Src.ofNil w ht c
      | some ad => exact Src.ofSlice w ht ad 0 c [] (by simp) (fun j u h => by simp at h) (fun u h => by simp at h)
    obtain ⟨bs, cp, rfl, hle⟩ : ∃ bs cp, v = .slice bs n cp ∧ n ≤ cp := by
      rcases hown.2 with ⟨rfl, rfl⟩ | ⟨g, cap, cur, rfl, _, _, hle, _⟩
      · exact ⟨none, 0, rfl, Nat.le_refl _⟩
      · exact ⟨_, _, rfl, hle⟩
    refine ⟨bs, cp, w, run_append_nothing (P := P) w t t ty e i ht hi bs n cp hle _ hs, ?_, ⟨rfl, rfl, rfl, Nat.le_refl _, fun _ _ _ => rfl⟩, .inl rfl⟩
    rw [List.append_nil]
    exact hown
  · rcases h2 with h2 | ⟨ad, rfl, hc⟩
    · exact absurd h2 hm
    · obtain ⟨g, cap, w', h3, h4, h5, h6, h7⟩ := run_append_lies (P := P) w t ty base e i z size bytes ht hi hz hsize hby hzs hsz v n xs hown ad m c news hl hc h1 (by omega) h63 hbytes hbase H hH
      refine ⟨some ⟨g, 0, none⟩, cap, w', h3, h4, h5, ?_⟩
      rcases h6 with h6 | h6
      · exact .inl h6.symm
      · right; show some g = _; rw [h6]
theorem wp_any (w : World) {o : Oper} {a : Act} {K : Act → World → Prop} {Q : Exit → Act → World → Prop} (s x : Operand) (t : TypeId)
    (ho : o.op = .call { callee := .builtin .append, args := #[s, x], argTypes := #[t, t] })
    (base : Nat) (e : TypeId) (i : TypeInfo) (z : Value) (size bytes : Nat) (ht : P.underlying t = some (.slice e)) (hi : P.info? e = some i) (hz : i.zero = some z)
    (hsize : i.size = size) (hby : i.bytes = bytes) (hzs : z.cells.size = size) (hsz : 0 < size)
    (v : Value) (n : Nat) (xs : List Value) (hs : a.eval s = v) (hown : w.ownsRow base e size v n xs) (xv : Value) (m : Nat) (news : List Value) (hx : a.eval x = xv) (hr : Row w size xv m news)
    (h63 : n + m ≤ maxLen) (hbytes : (n + m) * bytes ≤ 140737488355328) (hbase : base ≤ w.heap.size) (H : Nat) (hH : w.heap.size = H)
    (h : ∀ a' c' w', w'.ownsRow base e size (.slice a' (n + m) c') (n + m) (xs ++ news) → w.grownBy w' v.ownBlock → ((Value.slice a' (n + m) c').ownBlock = v.ownBlock ∨ (Value.slice a' (n + m) c').ownBlock = some H) → K (a.put o.dst (.slice a' (n + m) c')) w') : o.wp P a w K Q := by
  obtain ⟨a', c', w', hrn, h2, h3, h4⟩ := run_any (P := P) w t o.type base e i z size bytes ht hi hz hsize hby hzs hsz v n xs hown xv m news hr h63 hbytes hbase H hH
  unfold Oper.wp execOp
  simp only [ho, resolve, invoke, builtin, Sem.run_bind, Sem.run_pure, Result.andThen_ok, List.map_toArray, List.map_cons, List.map_nil, hs, hx, hrn]
  exact h a' c' w' h2 h3 h4
theorem wpList_any (w : World) {ops : Array Oper} {rest : List Oper} {o : Oper} {a : Act} {Q : Exit → Act → World → Prop} (hgd : o.guard = none) (s x : Operand) (t : TypeId)
    (ho : o.op = .call { callee := .builtin .append, args := #[s, x], argTypes := #[t, t] })
    (base : Nat) (e : TypeId) (i : TypeInfo) (z : Value) (size bytes : Nat) (ht : P.underlying t = some (.slice e)) (hi : P.info? e = some i) (hz : i.zero = some z)
    (hsize : i.size = size) (hby : i.bytes = bytes) (hzs : z.cells.size = size) (hsz : 0 < size)
    (v : Value) (n : Nat) (xs : List Value) (hs : a.eval s = v) (hown : w.ownsRow base e size v n xs) (xv : Value) (m : Nat) (news : List Value) (hx : a.eval x = xv) (hr : Row w size xv m news)
    (h63 : n + m ≤ maxLen) (hbytes : (n + m) * bytes ≤ 140737488355328) (hbase : base ≤ w.heap.size) (H : Nat) (hH : w.heap.size = H)
    (h : ∀ a' c' w', w'.ownsRow base e size (.slice a' (n + m) c') (n + m) (xs ++ news) → w.grownBy w' v.ownBlock → ((Value.slice a' (n + m) c').ownBlock = v.ownBlock ∨ (Value.slice a' (n + m) c').ownBlock = some H) → wpList P ops Q rest (a.put o.dst (.slice a' (n + m) c')) w') : wpList P ops Q (o :: rest) a w :=
  wpList_plain hgd fun _ hK => wp_any w s x t ho base e i z size bytes ht hi hz hsize hby hzs hsz v n xs hs hown xv m news hx hr h63 hbytes hbase H hH fun a' c' w' h2 h3 h4 => hK _ _ (h a' c' w' h2 h3 h4)
theorem step_any (w : World) {ops : Array Oper} {o : Oper} {a : Act} {K : Act → World → Prop} {Q : Exit → Act → World → Prop} {E : Prop} (hgd : o.guard = none) (s x : Operand) (t : TypeId)
    (ho : o.op = .call { callee := .builtin .append, args := #[s, x], argTypes := #[t, t] })
    (base : Nat) (e : TypeId) (i : TypeInfo) (z : Value) (size bytes : Nat) (ht : P.underlying t = some (.slice e)) (hi : P.info? e = some i) (hz : i.zero = some z)
    (hsize : i.size = size) (hby : i.bytes = bytes) (hzs : z.cells.size = size) (hsz : 0 < size)
    (v : Value) (n : Nat) (xs : List Value) (hs : a.eval s = v) (hown : w.ownsRow base e size v n xs) (xv : Value) (m : Nat) (news : List Value) (hx : a.eval x = xv) (hr : Row w size xv m news)
    (h63 : n + m ≤ maxLen) (hbytes : (n + m) * bytes ≤ 140737488355328) (hbase : base ≤ w.heap.size) (H : Nat) (hH : w.heap.size = H)
    (h : ∀ a' c' w', w'.ownsRow base e size (.slice a' (n + m) c') (n + m) (xs ++ news) → w.grownBy w' v.ownBlock → ((Value.slice a' (n + m) c').ownBlock = v.ownBlock ∨ (Value.slice a' (n + m) c').ownBlock = some H) → K (a.put o.dst (.slice a' (n + m) c')) w') :
    if Region.wanted o (yielded ops a.tmps) = true then Oper.wp P o a w K Q else E := by
  have hw : Region.wanted o (yielded ops a.tmps) = true := by simp [Region.wanted, hgd]
  rw [if_pos hw]
  exact wp_any w s x t ho base e i z size bytes ht hi hz hsize hby hzs hsz v n xs hs hown xv m news hx hr h63 hbytes hbase H hH h
end
end Ap
end Go.Proofs.YtfgckeoigkoflaaGreatDoor
