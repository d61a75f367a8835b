/- Blocks in memory: a step with a row of what is below it, and so on down; which blocks of memory it lies in. -/
import Derived.Test.YtedgobdnjemegaaDoorJIsPlain8
import Derived.Test.YtedgobdnjemegaaDoorJIsPlain9
import Derived.Test.YtedgobdnjemegaaDoorApA
namespace Go.Proofs.YtedgobdnjemegaaDoor
open Go.RowKit
set_option linter.unusedVariables false
namespace Bk
open Ex (hid)
open Nd (NodeD)
open St (StepD)
open Nst (own flat flat_succ flat_len flat_get flat_congr)
open Pl
/-- Nodes that lie in blocks of S. -/
def NdS (S : Nat → Prop) (w : World) (v : Value) (l : List NodeD) : Prop := Nd.At w 0 v l ∧ (l = [] ∨ ∀ g o n c, v = .slice (some ⟨g, o, none⟩) n c → S g)
theorem NdS.keep {S : Nat → Prop} {w w' : World} {v : Value} {l : List NodeD} (h : NdS S w v l) (hs : w.heap.size ≤ w'.heap.size) (hb : ∀ g, S g → g < w.heap.size → w'.heap[g]? = w.heap[g]?) : NdS S w' v l := by
  refine ⟨?_, h.2⟩
  obtain ⟨⟨a, cap, rfl, hle, hmx, h1⟩, h2⟩ := h
  refine ⟨a, cap, rfl, hle, hmx, ?_⟩
  rcases h1 with h1 | ⟨g, o, rfl, hB, hg, hc⟩
  · exact .inl h1
  · rcases h2 with h2 | h2
    · exact .inl h2
    · have e : ∀ off, w'.cell? ⟨g, off, none⟩ = w.cell? ⟨g, off, none⟩ := fun off => by simp only [World.cell?, hb g (h2 g o _ _ rfl) hg]
      exact .inr ⟨g, o, rfl, hB, Nat.lt_of_lt_of_le hg hs, fun i hi => by obtain ⟨a0, a1, a2, a3⟩ := hc i hi; exact ⟨(e _).trans a0, (e _).trans a1, (e _).trans a2, (e _).trans a3⟩⟩
theorem NdS.mono {S S' : Nat → Prop} {w : World} {v : Value} {l : List NodeD} (h : NdS S w v l) (hS : ∀ g, g < w.heap.size → S g → S' g) : NdS S' w v l := by
  refine ⟨h.1, ?_⟩
  rcases h.2 with h2 | h2
  · exact .inl h2
  · obtain ⟨a, cap, hv, hle, hmx, h1⟩ := h.1
    rcases h1 with h1 | ⟨g, o, rfl, hB, hg, hc⟩
    · exact .inl h1
    · refine .inr (fun g' o' n c e => ?_)
      rw [hv] at e
      cases e
      exact hS g hg (h2 g o _ _ hv)
theorem NdS.slice {S : Nat → Prop} {w : World} {v : Value} {l : List NodeD} (h : NdS S w v l) : ∃ a cap, v = .slice a l.length cap := h.1.slice
def cells7 (t : PT) (p : Int) (vc ve vk : Value) : List Value := [.int .i64 t.s.kind, .int .i64 p, .string t.s.name, .int .i64 t.s.arg, vc, ve, vk]
def C7 (S : Nat → Prop) (w : World) (K : Value → List PT → Prop) (cs : List Value) (t : PT) : Prop := ∃ p vc ve vk, cs = cells7 t p vc ve vk ∧ NdS S w vc t.s.cond ∧ NdS S w ve t.s.expr ∧ K vk t.kids
/-- A row of steps with what is below them, in blocks of S, at most f deep. -/
def KAt (S : Nat → Prop) : Nat → World → Value → List PT → Prop
  | 0, w, v, ks => ks = [] ∧ ∃ a cap, v = .slice a 0 cap ∧ cap ≤ maxLen
  | f + 1, w, v, ks => ∃ a cap, v = .slice a ks.length cap ∧ ks.length ≤ cap ∧ cap ≤ maxLen ∧ (ks = [] ∨ ∃ g, a = some ⟨g, 0, none⟩ ∧ S g ∧ g < w.heap.size ∧ ∃ c : Nat → List Value, ∀ j (h : j < ks.length), C7 S w (KAt S f w) (c j) ks[j] ∧ ∀ (i : Nat) u, (c j)[i]? = some u → w.cell? ⟨g, j * 7 + i, none⟩ = some u)
theorem C7.imp {S S' : Nat → Prop} {w w' : World} {K K' : Value → List PT → Prop} {cs : List Value} {t : PT} (h : C7 S w K cs t) (h1 : ∀ v l, NdS S w v l → NdS S' w' v l) (h2 : ∀ v l, K v l → K' v l) : C7 S' w' K' cs t := by
  obtain ⟨p, vc, ve, vk, e, a, b, c⟩ := h
  exact ⟨p, vc, ve, vk, e, h1 _ _ a, h1 _ _ b, h2 _ _ c⟩
theorem KAt.keep {S : Nat → Prop} {w w' : World} (hs : w.heap.size ≤ w'.heap.size) (hb : ∀ g, S g → g < w.heap.size → w'.heap[g]? = w.heap[g]?) : ∀ (f : Nat) {v : Value} {ks : List PT}, KAt S f w v ks → KAt S f w' v ks
  | 0, v, ks, h => h
  | f + 1, v, ks, h => by
    obtain ⟨a, cap, rfl, hle, hmx, h⟩ := h
    refine ⟨a, cap, rfl, hle, hmx, ?_⟩
    rcases h with h | ⟨g, rfl, hS, hg, c, hc⟩
    · exact .inl h
    · refine .inr ⟨g, rfl, hS, Nat.lt_of_lt_of_le hg hs, c, fun j hj => ⟨(hc j hj).1.imp (fun v l h => h.keep hs hb) (fun v l h => KAt.keep hs hb f h), fun i u hu => ?_⟩⟩
      have e : ∀ off, w'.cell? ⟨g, off, none⟩ = w.cell? ⟨g, off, none⟩ := fun off => by simp only [World.cell?, hb g hS hg]
      exact (e _).trans ((hc j hj).2 i u hu)
theorem KAt.below {S : Nat → Prop} {w w' : World} {f : Nat} {v : Value} {ks : List PT} (h : KAt S f w v ks) (hb : Below w.heap.size w w') : KAt S f w' v ks := KAt.keep hb.size (fun g _ hg => hb.block g hg) f h
theorem NdS.below {S : Nat → Prop} {w w' : World} {v : Value} {l : List NodeD} (h : NdS S w v l) (hb : Below w.heap.size w w') : NdS S w' v l := h.keep hb.size (fun g _ hg => hb.block g hg)
theorem KAt.mono {S S' : Nat → Prop} {w : World} (hS : ∀ g, g < w.heap.size → S g → S' g) : ∀ (f : Nat) {v : Value} {ks : List PT}, KAt S f w v ks → KAt S' f w v ks
  | 0, v, ks, h => h
  | f + 1, v, ks, h => by
    obtain ⟨a, cap, rfl, hle, hmx, h⟩ := h
    refine ⟨a, cap, rfl, hle, hmx, ?_⟩
    rcases h with h | ⟨g, rfl, h1, hg, c, hc⟩
    · exact .inl h
    · exact .inr ⟨g, rfl, hS g hg h1, hg, c, fun j hj => ⟨(hc j hj).1.imp (fun v l h => h.mono hS) (fun v l h => KAt.mono hS f h), (hc j hj).2⟩⟩
theorem KAt.up {S : Nat → Prop} {w : World} : ∀ (f : Nat) {v : Value} {ks : List PT}, KAt S f w v ks → KAt S (f + 1) w v ks
  | 0, v, ks, h => by
    obtain ⟨rfl, a, cap, rfl, hc⟩ := h
    exact ⟨a, cap, rfl, Nat.zero_le _, hc, .inl rfl⟩
  | f + 1, v, ks, h => by
    obtain ⟨a, cap, rfl, hle, hmx, h⟩ := h
    refine ⟨a, cap, rfl, hle, hmx, ?_⟩
    rcases h with h | ⟨g, rfl, h1, hg, c, hc⟩
    · exact .inl h
    · exact .inr ⟨g, rfl, h1, hg, c, fun j hj => ⟨(hc j hj).1.imp (fun v l h => h) (fun v l h => KAt.up f h), (hc j hj).2⟩⟩
theorem KAt.slice {S : Nat → Prop} {w : World} : ∀ {f : Nat} {v : Value} {ks : List PT}, KAt S f w v ks → ∃ a cap, v = .slice a ks.length cap
  | 0, v, ks, ⟨h, a, cap, e, _⟩ => ⟨a, cap, by rw [e, h]; rfl⟩
  | f + 1, v, ks, ⟨a, cap, e, _⟩ => ⟨a, cap, e⟩
theorem KAt.nil (S : Nat → Prop) (w : World) : ∀ f, KAt S f w (.slice none 0 0) []
  | 0 => ⟨rfl, none, 0, rfl, Nat.zero_le _⟩
  | f + 1 => ⟨none, 0, rfl, Nat.le_refl _, Nat.zero_le _, .inl rfl⟩
/-- One of a row, cell by cell. -/
theorem KAt.at {S : Nat → Prop} {w : World} {f : Nat} {a : Option Addr} {n cap : Nat} {ks : List PT} (h : KAt S (f + 1) w (.slice a n cap) ks) {j : Nat} (hj : j < ks.length) :
    ∃ g p vc ve vk, a = some ⟨g, 0, none⟩ ∧ S g ∧ g < w.heap.size ∧ w.cell? ⟨g, j * 7, none⟩ = some (.int .i64 ks[j].s.kind) ∧ w.cell? ⟨g, j * 7 + 1, none⟩ = some (.int .i64 p) ∧ w.cell? ⟨g, j * 7 + 2, none⟩ = some (.string ks[j].s.name) ∧ w.cell? ⟨g, j * 7 + 3, none⟩ = some (.int .i64 ks[j].s.arg) ∧ w.cell? ⟨g, j * 7 + 4, none⟩ = some vc ∧ w.cell? ⟨g, j * 7 + 5, none⟩ = some ve ∧ w.cell? ⟨g, j * 7 + 6, none⟩ = some vk ∧ NdS S w vc ks[j].s.cond ∧ NdS S w ve ks[j].s.expr ∧ KAt S f w vk ks[j].kids := by
  obtain ⟨a', cap', e, hle, hmx, h⟩ := h
  cases e
  rcases h with h | ⟨g, rfl, h1, hg, c, hc⟩
  · subst h; simp at hj
  · obtain ⟨⟨p, vc, ve, vk, hcs, d1, d2, d3⟩, h2⟩ := hc j hj
    rw [hcs] at h2
    exact ⟨g, p, vc, ve, vk, rfl, h1, hg, h2 0 _ rfl, h2 1 _ rfl, h2 2 _ rfl, h2 3 _ rfl, h2 4 _ rfl, h2 5 _ rfl, h2 6 _ rfl, d1, d2, d3⟩
theorem KAt.cap {S : Nat → Prop} {w : World} : ∀ {f : Nat} {a : Option Addr} {n cap : Nat} {ks : List PT}, KAt S f w (.slice a n cap) ks → n = ks.length ∧ ks.length ≤ cap ∧ cap ≤ maxLen
  | 0, a, n, cap, ks, ⟨h, a', cap', e, hc⟩ => by cases e; subst h; exact ⟨rfl, Nat.zero_le _, hc⟩
  | f + 1, a, n, cap, ks, ⟨a', cap', e, h1, h2, _⟩ => by cases e; exact ⟨rfl, h1, h2⟩
theorem C7.len {S : Nat → Prop} {w : World} {K : Value → List PT → Prop} {cs : List Value} {t : PT} (h : C7 S w K cs t) : cs.length = 7 := by obtain ⟨p, vc, ve, vk, rfl, _⟩ := h; rfl
theorem C7.one {S : Nat → Prop} {w : World} {f : Nat} {cs : List Value} {t : PT} (h : C7 S w (KAt S f w) cs t) : ∀ u ∈ cs, u.oneCell' = true := by
  obtain ⟨p, vc, ve, vk, rfl, h1, h2, h3⟩ := h
  obtain ⟨a1, c1, rfl⟩ := h1.slice
  obtain ⟨a2, c2, rfl⟩ := h2.slice
  obtain ⟨a3, c3, rfl⟩ := h3.slice
  intro u hu
  simp only [cells7, List.mem_cons, List.not_mem_nil, or_false] at hu
  rcases hu with rfl | rfl | rfl | rfl | rfl | rfl | rfl <;> rfl
/-- A row that is there, as it is appended. -/
theorem KAt.row {S : Nat → Prop} {w : World} {f : Nat} {v : Value} {ks : List PT} (h : KAt S (f + 1) w v ks) : ∃ c : Nat → List Value, Ap.Row w 7 v ks.length (flat c ks.length) ∧ ∀ j (h : j < ks.length), C7 S w (KAt S f w) (c j) ks[j] := by
  obtain ⟨a, cap, rfl, hle, hmx, h⟩ := h
  rcases h with rfl | ⟨g, rfl, h1, hg, c, hc⟩
  · exact ⟨fun _ => [], ⟨a, cap, rfl, rfl, (fun u hu => by cases hu), .inl rfl⟩, fun j hj => by simp at hj⟩
  · have hl : ∀ j, j < ks.length → (c j).length = 7 := fun j hj => (hc j hj).1.len
    refine ⟨c, ⟨_, cap, rfl, flat_len _ hl, fun u hu => ?_, .inr ⟨_, rfl, fun i u hu => ?_⟩⟩, fun j hj => (hc j hj).1⟩
    · unfold flat at hu
      obtain ⟨j, hj, hu⟩ := List.mem_flatMap.1 hu
      exact (hc j (List.mem_range.1 hj)).1.one u hu
    · rw [Go.WideShapes.add_plain, Nat.zero_add]
      have hi : i < ks.length * 7 := by
        have := (List.getElem?_eq_some_iff.1 hu).1
        rw [flat_len _ hl] at this
        exact this
      have hd : i / 7 < ks.length := Nat.div_lt_of_lt_mul (by omega)
      have e : i = i / 7 * 7 + i % 7 := by omega
      rw [e, flat_get hl hd (Nat.mod_lt _ (by decide))] at hu
      rw [e]
      exact (hc (i / 7) hd).2 _ u hu
/-- A row under way: what it has lies in blocks of A or from lo on, and in none of its own. -/
def Sx (A : Nat → Prop) (lo : Nat) (v : Value) : Nat → Prop := fun b => (A b ∨ lo ≤ b) ∧ ¬ own v b
def RowB (A : Nat → Prop) (lo : Nat) (ty : TypeId) (f : Nat) (w : World) (v : Value) (l : List PT) : Prop :=
  ∃ c : Nat → List Value, w.ownsRow lo ty 7 v l.length (flat c l.length) ∧ ∀ j (h : j < l.length), C7 (Sx A lo v) w (KAt (Sx A lo v) f w) (c j) l[j]
theorem RowB.nil (A : Nat → Prop) (lo : Nat) (ty : TypeId) (f : Nat) (w : World) : RowB A lo ty f w (.slice none 0 0) [] := ⟨fun _ => [], World.ownsRow_nil w lo ty 7, fun j h => by simp at h⟩
theorem RowB.below {A : Nat → Prop} {lo : Nat} {ty : TypeId} {f : Nat} {w w' : World} {v : Value} {l : List PT} (h : RowB A lo ty f w v l) (hb : Below w.heap.size w w') : RowB A lo ty f w' v l := by
  obtain ⟨c, h1, h2⟩ := h
  exact ⟨c, Nst.own_kept h1 (fun b hv => hb.block b (Nst.own_lt h1 hv).2), fun j hj => (h2 j hj).imp (fun v l h => h.below hb) (fun v l h => h.below hb)⟩
theorem RowB.slice {A : Nat → Prop} {lo : Nat} {ty : TypeId} {f : Nat} {w : World} {v : Value} {l : List PT} (h : RowB A lo ty f w v l) : ∃ a cap, v = .slice a l.length cap := by
  obtain ⟨c, h1, _⟩ := h; exact Nst.own_slice h1
/-- A block made into a row's: what it lies in is none of the row. -/
theorem sx_of {A B : Nat → Prop} {lo hi : Nat} {v : Value} (hv : ∀ b, own v b → lo ≤ b ∧ b < hi) (hA : ∀ b, A b → b < lo) (hB : ∀ b, B b → (A b ∨ hi ≤ b)) (hh : lo ≤ hi) : ∀ b, B b → Sx A lo v b := fun b hb => by
  rcases hB b hb with h | h
  · exact ⟨.inl h, fun ho => by have := hA b h; have := (hv b ho).1; omega⟩
  · exact ⟨.inr (by omega), fun ho => by have := (hv b ho).2; omega⟩
/-- Some are appended. -/
theorem RowB.append {A : Nat → Prop} {lo : Nat} {ty : TypeId} {f : Nat} {w w2 : World} {v v' : Value} {l m : List PT} {c d : Nat → List Value}
    (h1 : w.ownsRow lo ty 7 v l.length (flat c l.length)) (h2 : ∀ j (h : j < l.length), C7 (Sx A lo v) w (KAt (Sx A lo v) f w) (c j) l[j]) (h3 : ∀ j (h : j < m.length), C7 (Sx A lo v) w (KAt (Sx A lo v) f w) (d j) m[j])
    (hown : w2.ownsRow lo ty 7 v' (l.length + m.length) (flat c l.length ++ flat d m.length)) (hg : w.grownBy w2 v.ownBlock) (hat : v'.ownBlock = v.ownBlock ∨ v'.ownBlock = some w.heap.size) : RowB A lo ty f w2 v' (l ++ m) := by
  have hk : ∀ b, Sx A lo v b → b < w.heap.size → w2.heap[b]? = w.heap[b]? := fun b hb hl => hg.block b hl (fun e => hb.2 e.symm)
  have hm : ∀ b, b < w.heap.size → Sx A lo v b → Sx A lo v' b := fun b hl hb => ⟨hb.1, fun ho => by
    rcases hat with e | e
    · exact hb.2 (by unfold own; rw [← e]; exact ho)
    · unfold own at ho; rw [e] at ho; cases ho; omega⟩
  have hC : ∀ {cs : List Value} {t : PT}, C7 (Sx A lo v) w (KAt (Sx A lo v) f w) cs t → C7 (Sx A lo v') w2 (KAt (Sx A lo v') f w2) cs t := fun h => by
    have h5 : C7 (Sx A lo v') w (KAt (Sx A lo v') f w) _ _ := h.imp (fun v l h => h.mono hm) (fun v l h => KAt.mono hm f h)
    have hk' : ∀ b, (Sx A lo v' b ∧ Sx A lo v b) → b < w.heap.size → w2.heap[b]? = w.heap[b]? := fun b hb hl => hk b hb.2 hl
    have h6 : C7 (fun b => Sx A lo v' b ∧ Sx A lo v b) w (KAt (fun b => Sx A lo v' b ∧ Sx A lo v b) f w) _ _ := h.imp (fun v l h => h.mono (fun b hl hb => ⟨hm b hl hb, hb⟩)) (fun v l h => KAt.mono (fun b hl hb => ⟨hm b hl hb, hb⟩) f h)
    have h7 : C7 (fun b => Sx A lo v' b ∧ Sx A lo v b) w2 (KAt (fun b => Sx A lo v' b ∧ Sx A lo v b) f w2) _ _ := h6.imp (fun v l h => h.keep hg.size hk') (fun v l h => KAt.keep hg.size hk' f h)
    exact h7.imp (fun v l h => h.mono (fun b _ hb => hb.1)) (fun v l h => KAt.mono (fun b _ hb => hb.1) f h)
  refine ⟨fun j => if j < l.length then c j else d (j - l.length), ?_, fun j hj => ?_⟩
  · have e : ∀ n, flat (fun j => if j < l.length then c j else d (j - l.length)) (l.length + n) = flat c l.length ++ flat d n := by
      intro n
      induction n with
      | zero => rw [Nat.add_zero]; simp only [flat, List.range_zero, List.flatMap_nil, List.append_nil]; exact flat_congr (fun j hj => by rw [if_pos hj])
      | succ n ih => rw [← Nat.add_assoc, flat_succ, ih, flat_succ, if_neg (by omega), List.append_assoc, Nat.add_sub_cancel_left]
    rw [List.length_append, e]
    exact hown
  · by_cases e : j < l.length
    · simp only [e, if_true, List.getElem_append_left e]
      exact hC (h2 j e)
    · have e2 : j - l.length < m.length := by rw [List.length_append] at hj; omega
      simp only [e, if_false, List.getElem_append_right (Nat.le_of_not_lt e)]
      exact hC (h3 _ e2)
/-- A row that is done. -/
theorem RowB.done {A : Nat → Prop} {lo : Nat} {ty : TypeId} {f : Nat} {w : World} {v : Value} {l : List PT} (h : RowB A lo ty f w v l) : KAt (fun b => A b ∨ lo ≤ b) (f + 1) w v l := by
  obtain ⟨c, h1, h2⟩ := h
  have hx : ∀ b, b < w.heap.size → Sx A lo v b → (A b ∨ lo ≤ b) := fun b _ h => h.1
  rcases Nat.eq_zero_or_pos l.length with h0 | h0
  · have e : l = [] := List.eq_nil_of_length_eq_zero h0
    subst e
    rcases h1.2 with ⟨rfl, _⟩ | ⟨g, cap, cur, rfl, _, _, _, hm, _⟩
    · exact ⟨_, _, rfl, Nat.le_refl _, Nat.zero_le _, .inl rfl⟩
    · exact ⟨_, _, rfl, Nat.zero_le _, hm, .inl rfl⟩
  · obtain ⟨g, cap, rfl, hB, hg, hc, hm⟩ := Nst.own_some h1 h0
    have hl : ∀ j, j < l.length → (c j).length = 7 := fun j hj => (h2 j hj).len
    refine ⟨_, cap, rfl, hc, hm, .inr ⟨g, rfl, .inr hB, hg, c, fun j hj => ⟨(h2 j hj).imp (fun v l h => h.mono hx) (fun v l h => KAt.mono hx f h), fun i u hu => ?_⟩⟩⟩
    have hi : i < 7 := by
      have := (List.getElem?_eq_some_iff.1 hu).1
      rw [hl j hj] at this
      exact this
    rw [h1.cellAt (j * 7 + i) (Nst.mul_lt hj hi), flat_get hl hj hi]
    exact hu
/-- The blocks of P are as they were. -/
structure Kp (P : Nat → Prop) (w w' : World) : Prop where
  size : w.heap.size ≤ w'.heap.size
  block : ∀ b, P b → b < w.heap.size → w'.heap[b]? = w.heap[b]?
theorem Kp.refl (P : Nat → Prop) (w : World) : Kp P w w := ⟨Nat.le_refl _, fun _ _ _ => rfl⟩
theorem Kp.trans {P : Nat → Prop} {a b c : World} (h : Kp P a b) (k : Kp P b c) : Kp P a c := ⟨Nat.le_trans h.size k.size, fun g hp hg => (k.block g hp (Nat.lt_of_lt_of_le hg h.size)).trans (h.block g hp hg)⟩
theorem Kp.alloc {P : Nat → Prop} {a w : World} (h : Kp P a w) (o : Obj) : Kp P a (w.alloc o) := ⟨Nat.le_trans h.size (by simp), fun b hp hb => (Below.heap_alloc w o b (Nat.lt_of_lt_of_le hb h.size)).trans (h.block b hp hb)⟩
theorem Kp.setCell {P : Nat → Prop} {a w : World} (h : Kp P a w) {p : Addr} (hp : p.block < a.heap.size → ¬ P p.block) (u : Value) : Kp P a (w.setCell p u) := ⟨Nat.le_trans h.size (by simp [World.setCell]), fun b hb hl => (Below.heap_setCell w p u b (fun e => hp (e ▸ hl) (e ▸ hb))).trans (h.block b hb hl)⟩
theorem Kp.below {P : Nat → Prop} {a b c : World} (h : Kp P a b) (k : Below b.heap.size b c) : Kp P a c := h.trans ⟨k.size, fun g _ hg => k.block g hg⟩
theorem Kp.grown {P : Nat → Prop} {a w w' : World} {row : Option Nat} (h : Kp P a w) (hg : w.grownBy w' row) (hr : ∀ b, P b → some b ≠ row) : Kp P a w' := h.trans ⟨hg.size, fun b hp hb => hg.block b hb (fun e => hr b hp e)⟩
theorem Kp.own {P : Nat → Prop} {w w' : World} {B : Nat} {e : TypeId} {size n : Nat} {v : Value} {xs : List Value} (k : Kp P w w') (h : w.ownsRow B e size v n xs) (hp : ∀ b, own v b → P b) : w'.ownsRow B e size v n xs := Nst.own_kept h (fun b hb => k.block b (hp b hb) (Nst.own_lt h hb).2)
theorem kp6 {P : Nat → Prop} {x w : World} (h : Kp P x w) {b : Nat} (hb : ¬ P b) (a0 a1 a2 a3 a4 a5 : Value) : Kp P x ((((((w.setCell ⟨b, 0, none⟩ a0).setCell ⟨b, 1, none⟩ a1).setCell ⟨b, 2, none⟩ a2).setCell ⟨b, 3, none⟩ a3).setCell ⟨b, 4, none⟩ a4).setCell ⟨b, 5, none⟩ a5) :=
  ((((((h.setCell (p := ⟨b, 0, none⟩) (fun _ => hb) _).setCell (p := ⟨b, 1, none⟩) (fun _ => hb) _).setCell (p := ⟨b, 2, none⟩) (fun _ => hb) _).setCell (p := ⟨b, 3, none⟩) (fun _ => hb) _).setCell (p := ⟨b, 4, none⟩) (fun _ => hb) _).setCell (p := ⟨b, 5, none⟩) (fun _ => hb) _)
theorem NdS.kp {S : Nat → Prop} {w w' : World} {v : Value} {l : List NodeD} (h : NdS S w v l) (k : Kp S w w') : NdS S w' v l := h.keep k.size k.block
theorem KAt.kp {S : Nat → Prop} {w w' : World} {f : Nat} {v : Value} {l : List PT} (h : KAt S f w v l) (k : Kp S w w') : KAt S f w' v l := KAt.keep k.size k.block f h
/-- A block, as a value. -/
def BV (S : Nat → Prop) (f : Nat) (w : World) (v : Value) (t : PT) : Prop := ∃ p vc ve vk, v = .agg #[.int .i64 t.s.kind, .int .i64 p, .string t.s.name, .int .i64 t.s.arg, vc, ve, vk] ∧ NdS S w vc t.s.cond ∧ NdS S w ve t.s.expr ∧ KAt S f w vk t.kids
theorem BV.below {S : Nat → Prop} {f : Nat} {w w' : World} {v : Value} {t : PT} (h : BV S f w v t) (hb : Below w.heap.size w w') : BV S f w' v t := by
  obtain ⟨p, vc, ve, vk, e, h1, h2, h3⟩ := h
  exact ⟨p, vc, ve, vk, e, h1.below hb, h2.below hb, h3.below hb⟩
theorem BV.mono {S S' : Nat → Prop} {f : Nat} {w : World} {v : Value} {t : PT} (h : BV S f w v t) (hS : ∀ g, g < w.heap.size → S g → S' g) : BV S' f w v t := by
  obtain ⟨p, vc, ve, vk, e, h1, h2, h3⟩ := h
  exact ⟨p, vc, ve, vk, e, h1.mono hS, h2.mono hS, KAt.mono hS f h3⟩
theorem blk_put {w : World} {b i : Nat} {t : TypeId} {cs : Array Value} {fr : Nat × Nat} (h : w.heap[b]? = some (.cells cs t fr)) (v : Value) : (w.setCell ⟨b, i, none⟩ v).heap[b]? = some (.cells (cs.setIfInBounds i v) t fr) := by
  simp [World.setCell, Array.getElem?_modify, h]
theorem set7 {w : World} {b : Nat} {t : TypeId} {fr : Nat × Nat} {z0 z1 z2 z3 z4 z5 z6 : Value} (h : w.heap[b]? = some (.cells #[z0, z1, z2, z3, z4, z5, z6] t fr)) (a0 a1 a2 a3 a4 a5 a6 : Value) : (((((((w.setCell ⟨b, 0, none⟩ a0).setCell ⟨b, 1, none⟩ a1).setCell ⟨b, 2, none⟩ a2).setCell ⟨b, 3, none⟩ a3).setCell ⟨b, 4, none⟩ a4).setCell ⟨b, 5, none⟩ a5).setCell ⟨b, 6, none⟩ a6).heap[b]? = some (.cells #[a0, a1, a2, a3, a4, a5, a6] t fr) := by
  have h7 := blk_put (i := 6) (blk_put (i := 5) (blk_put (i := 4) (blk_put (i := 3) (blk_put (i := 2) (blk_put (i := 1) (blk_put (i := 0) h a0) a1) a2) a3) a4) a5) a6
  simpa only [List.setIfInBounds_toArray, List.set_cons_zero, List.set_cons_succ] using h7
theorem kp7 {P : Nat → Prop} {x w : World} (h : Kp P x w) {b : Nat} (hb : ¬ P b) (a0 a1 a2 a3 a4 a5 a6 : Value) : Kp P x (((((((w.setCell ⟨b, 0, none⟩ a0).setCell ⟨b, 1, none⟩ a1).setCell ⟨b, 2, none⟩ a2).setCell ⟨b, 3, none⟩ a3).setCell ⟨b, 4, none⟩ a4).setCell ⟨b, 5, none⟩ a5).setCell ⟨b, 6, none⟩ a6) :=
  (((((((h.setCell (p := ⟨b, 0, none⟩) (fun _ => hb) _).setCell (p := ⟨b, 1, none⟩) (fun _ => hb) _).setCell (p := ⟨b, 2, none⟩) (fun _ => hb) _).setCell (p := ⟨b, 3, none⟩) (fun _ => hb) _).setCell (p := ⟨b, 4, none⟩) (fun _ => hb) _).setCell (p := ⟨b, 5, none⟩) (fun _ => hb) _).setCell (p := ⟨b, 6, none⟩) (fun _ => hb) _)
theorem below7 {B : Nat} {x w : World} (h : Below B x w) {b : Nat} (hb : B ≤ b) (a0 a1 a2 a3 a4 a5 a6 : Value) : Below B x (((((((w.setCell ⟨b, 0, none⟩ a0).setCell ⟨b, 1, none⟩ a1).setCell ⟨b, 2, none⟩ a2).setCell ⟨b, 3, none⟩ a3).setCell ⟨b, 4, none⟩ a4).setCell ⟨b, 5, none⟩ a5).setCell ⟨b, 6, none⟩ a6) :=
  (((((((h.setCell (p := ⟨b, 0, none⟩) hb _).setCell (p := ⟨b, 1, none⟩) hb _).setCell (p := ⟨b, 2, none⟩) hb _).setCell (p := ⟨b, 3, none⟩) hb _).setCell (p := ⟨b, 4, none⟩) hb _).setCell (p := ⟨b, 5, none⟩) hb _).setCell (p := ⟨b, 6, none⟩) hb _)
theorem size7 {w : World} {b : Nat} (a0 a1 a2 a3 a4 a5 a6 : Value) : (((((((w.setCell ⟨b, 0, none⟩ a0).setCell ⟨b, 1, none⟩ a1).setCell ⟨b, 2, none⟩ a2).setCell ⟨b, 3, none⟩ a3).setCell ⟨b, 4, none⟩ a4).setCell ⟨b, 5, none⟩ a5).setCell ⟨b, 6, none⟩ a6).heap.size = w.heap.size := by simp [World.setCell]
theorem seven {w : World} (b : Nat) (hb : b = w.heap.size) (t : TypeId) (a0 a1 a2 a3 a4 a5 a6 : Value) : ∀ (j : Nat) u, [a0, a1, a2, a3, a4, a5, a6][j]? = some u → (w.alloc (.cells #[a0, a1, a2, a3, a4, a5, a6] t)).cell? ((⟨b, 0, none⟩ : Addr).add j) = some u := by
  subst hb
  intro j u hj
  rw [Go.WideShapes.add_plain]
  simp only [Nat.zero_add, World.cell?_alloc_new]
  simpa using hj
end Bk
end Go.Proofs.YtedgobdnjemegaaDoor
