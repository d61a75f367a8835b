/- Lists of numbers in memory, and what the law does with them: copied, compared. -/
import Derived.Test.YtpninlangjfcfaaProg
import Derived.WalkKit
import Derived.Below
import Derived.WalkSpells
import Derived.WalkLawsBesides
import Derived.ProofKit
import Derived.OpenShut
import Derived.Deep.Slices
import Derived.Deep.QuietTactic
import Derived.BigQuiet
import Derived.BigRegion
import Derived.Deep.RegionWith
import Derived.Deep.OwnRows
import Derived.Laws.MakeOwn
namespace Go.Proofs.Ytpninlangjfcfaa
open Go.RowKit Go.Deep
set_option linter.unusedVariables false
namespace Nu
def At (w : World) (B : Nat) (v : Value) (xs : List Int) : Prop :=
  ∃ a cap, v = .slice a xs.length cap ∧ xs.length ≤ cap ∧ cap ≤ maxLen ∧ (xs = [] ∨ ∃ g o, a = some ⟨g, o, none⟩ ∧ B ≤ g ∧ g < w.heap.size ∧ ∀ i (h : i < xs.length), w.cell? ⟨g, o + i, none⟩ = some (.int .i64 xs[i]))
theorem At.kept {w w' : World} {B : Nat} {v : Value} {xs : List Int} (h : At w B v xs) (hs : w.heap.size ≤ w'.heap.size) (hb : ∀ g, B ≤ g → g < w.heap.size → w'.heap[g]? = w.heap[g]?) : At w' B v xs := by
  obtain ⟨a, cap, rfl, hle, hmx, h⟩ := h
  refine ⟨a, cap, rfl, hle, hmx, ?_⟩
  rcases h with h | ⟨g, o, rfl, hB, hg, hc⟩
  · exact .inl h
  · refine .inr ⟨g, o, rfl, hB, Nat.lt_of_lt_of_le hg hs, fun i hi => ?_⟩
    have e : ∀ off, w'.cell? ⟨g, off, none⟩ = w.cell? ⟨g, off, none⟩ := fun off => by simp only [World.cell?, hb g hB hg]
    simp only [e]
    exact hc i hi
theorem At.below {w w' : World} {B : Nat} {v : Value} {xs : List Int} (h : At w B v xs) (hb : Below w.heap.size w w') : At w' B v xs := h.kept hb.size (fun g _ hg => hb.block g hg)
theorem At.setBelow {w : World} {B : Nat} {v : Value} {xs : List Int} (h : At w B v xs) {b o : Nat} (ha : b < B) (x : Value) : At (w.setCell ⟨b, o, none⟩ x) B v xs :=
  h.kept (by simp [World.setCell]) (fun g hg _ => Below.heap_setCell _ _ _ _ (by dsimp only; omega))
theorem At.mono {w : World} {B B' : Nat} {v : Value} {xs : List Int} (h : At w B v xs) (hB : B' ≤ B) : At w B' v xs := by
  obtain ⟨a, cap, rfl, hle, hmx, h⟩ := h
  refine ⟨a, cap, rfl, hle, hmx, ?_⟩
  rcases h with h | ⟨g, o, rfl, hb, hg, hc⟩
  · exact .inl h
  · exact .inr ⟨g, o, rfl, Nat.le_trans hB hb, hg, hc⟩
theorem At.slice {w : World} {B : Nat} {v : Value} {xs : List Int} (h : At w B v xs) : ∃ a cap, v = .slice a xs.length cap := by
  obtain ⟨a, cap, rfl, _⟩ := h; exact ⟨a, cap, rfl⟩
theorem At.at {w : World} {B : Nat} {a : Option Addr} {n cap : Nat} {xs : List Int} (h : At w B (.slice a n cap) xs) {i : Nat} (hi : i < xs.length) :
    ∃ g o, a = some ⟨g, o, none⟩ ∧ g < w.heap.size ∧ w.cell? ⟨g, o + i, none⟩ = some (.int .i64 xs[i]) := by
  obtain ⟨a', cap', e, _, _, h⟩ := h
  cases e
  rcases h with h | ⟨g, o, rfl, _, hg, hc⟩
  · subst h; simp at hi
  · exact ⟨g, o, rfl, hg, hc i hi⟩
theorem At.cap {w : World} {B : Nat} {a : Option Addr} {n cap : Nat} {xs : List Int} (h : At w B (.slice a n cap) xs) : xs.length ≤ cap ∧ cap ≤ maxLen := by
  obtain ⟨a', cap', e, h1, h2, _⟩ := h; cases e; exact ⟨h1, h2⟩
theorem cellsOne : Try.prog.cellsOf 2 = 1 := by kernel_rfl
theorem cellsI64 : Try.prog.cellsOf 2 = 1 := by kernel_rfl
section
variable {H : Type} {enc : TypeId × Value → H} {w : World} {base : Nat} {spare : Nat → Bool} {held : Bool} {fuel : Nat}
theorem add_add (a : Addr) (x y : Nat) : (a.add x).add y = a.add (x + y) := by
  unfold Addr.add
  by_cases hx : x = 0
  · simp [hx]
  · by_cases hy : y = 0
    · simp [hy]
    · simp [hx, hy, Nat.add_assoc]
theorem lt_of_cell {a : Addr} {v : Value} (h : w.cell? a = some v) : a.block < w.heap.size := by
  rcases Nat.lt_or_ge a.block w.heap.size with h1 | h1
  · exact h1
  · simp [World.cell?, Array.getElem?_eq_none h1] at h
set_option maxRecDepth 100000 in
theorem open_one {cs : List Value} {x : DataW H × List MemPlace} (h : DataW.trod enc Try.prog w base spare held fuel 2 cs = some x) : ∃ e : Int, cs = [.int .i64 e] := by
  obtain ⟨n1, e1, _, _⟩ := DataW.trod_int Try.underlying2 h
  exact ⟨n1, e1⟩
set_option maxRecDepth 100000 in
theorem open_all {v : Value} {x : DataW H × List MemPlace} (h : DataW.trod enc Try.prog w base spare held fuel 54 [v] = some x) :
    ∃ es, At w 0 v es ∧ es.length ≤ maxLen := by
  rcases open_slice Try.underlying54 h with ⟨hcs, _⟩ | ⟨a, len, cap, m, n, D, Pl, hcs, hb, hl, hcm, hm, _, hx⟩
  · obtain rfl : v = .slice none 0 0 := by simpa using hcs
    exact ⟨[], ⟨none, 0, rfl, Nat.le_refl _, Nat.zero_le _, .inl rfl⟩, Nat.zero_le _⟩
  · obtain rfl : v = .slice (some a) len cap := by simpa using hcs
    have hlm : len ≤ m := by rw [hm]; split <;> omega
    rw [cellsI64] at hx
    have each : ∀ i, i < len → ∃ q : Int, w.cell? (a.add (i * 1)) = some (.int .i64 q) := fun i hi => by
      obtain ⟨cs', c0, d0⟩ := hx i (by omega)
      obtain ⟨e, rfl⟩ := open_one d0
      obtain ⟨_, _, hc⟩ := World.cells?_some c0
      have k0 := hc 0 (by omega)
      rw [add_add] at k0
      exact ⟨e, k0⟩
    haveI : Inhabited Int := ⟨0⟩
    obtain ⟨F, hF⟩ := choose_lt each
    refine ⟨(List.range len).map F, ?_, by simp; omega⟩
    refine ⟨some a, cap, by simp, by simpa using hl, hcm, ?_⟩
    rcases Nat.eq_zero_or_pos len with h0 | h0
    · exact .inl (by simp [h0])
    · right
      obtain ⟨b, off, spot⟩ := a
      have hspot : spot = none := by simpa [Addr.add] using World.cell?_spot (hF 0 h0)
      subst hspot
      refine ⟨b, off, rfl, Nat.zero_le _, lt_of_cell (hF 0 h0), fun i hi => ?_⟩
      have hi' : i < len := by simpa using hi
      have h2 := hF i hi'
      simp only [List.getElem_map, List.getElem_range]
      simpa [Go.WideShapes.add_plain] using h2
end
theorem infoOne : (Try.prog.info? 2).map (fun i => (i.zero, i.size, i.bytes)) = some (some (Value.int .i64 0), 1, 8) := by kernel_rfl
theorem make_row {P : Program} {t e : TypeId} {z : Value} {sz bytes : Nat} (ht : P.underlying t = some (.slice e)) (hinfo : (P.info? e).map (fun i => (i.zero, i.size, i.bytes)) = some (some z, sz, bytes))
    (n : Nat) (hb : bytes * n ≤ 281474976710656) (hn : n ≤ 9223372036854775807) (w : World) :
    (Instr.makeSlice t (.int .i64 (n : Int)) (.int .i64 (n : Int))).run P w = .ok (.slice (some ⟨w.heap.size, 0, none⟩) n n) (w.alloc (.cells (madeCells z.cells (n * sz)) e)) := by
  cases hi : P.info? e with
  | none => rw [hi] at hinfo; cases hinfo
  | some i =>
    rw [hi] at hinfo
    simp only [Option.map_some, Option.some.injEq, Prod.mk.injEq] at hinfo
    obtain ⟨h1, h2, h3⟩ := hinfo
    have hb' : (i.bytes : Int) * (n : Int) ≤ 281474976710656 := by
      have h : ((i.bytes * n : Nat) : Int) ≤ 281474976710656 := by rw [h3]; omega
      rwa [Int.natCast_mul] at h
    have h := run_make (P := P) w t e i z ht hi h1 .i64 .i64 n n (by omega) (Int.le_refl _) hb' (by omega)
    rw [h2] at h
    simpa using h
theorem made_row (w : World) (z : Array Value) (n : Nat) (e : TypeId) : ∃ f, (w.alloc (.cells (madeCells z n) e)).rowIs w.heap.size e n f := by
  have h := World.rowIs_alloc w (madeCells z n) e (fun i => (madeCells z n)[i]!) (fun i hi => by simp [hi])
  rw [size_madeCells] at h
  exact ⟨_, h⟩
/-- A row that may be written into, between two blocks. -/
def Own (w : World) (B C : Nat) (v : Value) (m : Nat) : Prop := ∃ g f, v = .slice (some ⟨g, 0, none⟩) m m ∧ B ≤ g ∧ g < C ∧ w.rowIs g 2 (m * 1) f
theorem row_at {w : World} {g : Nat} {t : TypeId} {f : Nat → Value} {xs : List Int} (h : w.rowIs g t (xs.length * 1) f)
    (hf : ∀ j (hj : j < xs.length), f (j) = .int .i64 xs[j]) (cap : Nat) (hc : xs.length ≤ cap) (hm : cap ≤ maxLen) : At w g (.slice (some ⟨g, 0, none⟩) xs.length cap) xs := by
  refine ⟨_, _, rfl, hc, hm, .inr ⟨g, 0, rfl, Nat.le_refl _, h.lt, fun i hi => ?_⟩⟩
  have h1 := hf i hi
  simp only [Nat.zero_add]
  rw [← h1]; exact h.cell (by omega)
theorem setOne {w : World} {g : Nat} {t : TypeId} {k : Nat} {f : Nat → Value} {xs : List Int} (h : w.rowIs g t (xs.length * 1) f)
    (hf : ∀ j (hj : j < xs.length), j < k → f (j) = .int .i64 xs[j]) (hk : k < xs.length) :
    ∃ f', (w.setCell ⟨g, k, none⟩ (.int .i64 xs[k])).rowIs g t (xs.length * 1) f' ∧ ∀ j (hj : j < xs.length), j < k + 1 → f' (j) = .int .i64 xs[j] := by
  refine ⟨_, (h.set (k) _), fun j hj hjk => ?_⟩
  by_cases e : j = k
  · subst e
    simp
  · have h1 := hf j hj (by omega)
    have n00 : ¬ j = k := by omega
    simp only [n00, if_false]
    exact h1
set_option maxRecDepth 100000 in
set_option maxHeartbeats 1000000 in
theorem toS2 (B : Nat) (xs : List Int) (v : Value) (w : World) (hl : xs.length ≤ 1048576) (ha : At w B v xs) :
    Calls Try.prog 53 #[v] w fun e w' => ∃ v', e = .returned v' ∧ At w' w.heap.size v' xs ∧ Own w' w.heap.size w'.heap.size v' xs.length ∧ Below w.heap.size w w' := by
  obtain ⟨a, cap, rfl⟩ := ha.slice
  have HA : Hid (At w B (.slice a xs.length cap) xs) := ha
  clear ha
  have hmk := make_row (P := Try.prog) Try.underlying54 infoOne xs.length (by omega) (by omega)
  go_enter Try.func53, Try.ntmps53
  go_wp2
  go_loopw [4] (fun i wr => ∃ (k : Nat) (f : Nat → Value), i = .int .i64 k ∧ k ≤ xs.length ∧ Hid (wr.rowIs w.heap.size 2 (xs.length * 1) f) ∧ Hid (∀ j (hj : j < xs.length), j < k → f (j) = .int .i64 xs[j]) ∧ Below w.heap.size w wr) (fun i _ => xs.length - (intOf i).toNat)
  case atStart =>
    obtain ⟨f, hf⟩ := made_row w (Value.int .i64 0).cells (xs.length * 1) 2
    exact ⟨0, f, rfl, Nat.zero_le _, (by have h := hf; simp only [Nat.mul_one] at h ⊢; exact h), fun j _ h => by omega, (Below.refl _ _).alloc (Nat.le_refl _) _⟩
  case round =>
    obtain ⟨k, f, rfl, hkl, HR, HF, hbel⟩ := hrel
    by_cases hlt : k < xs.length
    · obtain ⟨g, o, rfl, hg, c0⟩ := (HA.out.below hbel).at hlt
      have q1 : (k : Int) < (xs.length : Int) := by omega
      have hb1 : Below wr.heap.size wr wr := Below.refl _ _
      have hR1 : wr.rowIs w.heap.size 2 (xs.length * 1) f := HR.out.of_block (hb1.block _ HR.out.lt)
      have d0 := hR1.cell (i := k) (by omega)
      have f0 := hR1.frozen (k)
      obtain ⟨f', hR2, hF2⟩ := setOne (k := k) hR1 HF.out hlt
      have HR2 : Hid _ := hR2
      have HF2 : Hid _ := hF2
      have hB : Below w.heap.size w wr := hbel.trans (hb1.mono hbel.size)
      clear hR1 hR2 hF2
      go_wp2
      exact ⟨⟨k + 1, f', by simp, by omega, HR2, HF2, (hB.setCell (by simp) _)⟩, by simp [intOf]; omega⟩
    · have HX : Hid (At wr w.heap.size (.slice (some ⟨w.heap.size, 0, none⟩) xs.length xs.length) xs) := row_at HR.out (fun j hj => HF.out j hj (by omega)) _ (Nat.le_refl _) (by unfold maxLen; omega)
      go_wp2
      go_ret
      exact ⟨_, rfl, HX.out, ⟨w.heap.size, f, rfl, Nat.le_refl _, HR.out.lt, HR.out⟩, hbel⟩
theorem toS (B : Nat) (xs : List Int) (v : Value) (w : World) (hl : xs.length ≤ 1048576) (ha : At w B v xs) :
    Calls Try.prog 53 #[v] w fun e w' => ∃ v', e = .returned v' ∧ At w' w.heap.size v' xs ∧ Below w.heap.size w w' :=
  (toS2 B xs v w hl ha).mono (fun e w' ⟨v', h1, h2, _, h4⟩ => ⟨v', h1, h2, h4⟩)
set_option maxRecDepth 100000 in
set_option maxHeartbeats 2000000 in
theorem eqS (B1 B2 : Nat) (xs : List Int) (v1 v2 : Value) (w : World) (hl : xs.length ≤ 1048576) (h1 : At w B1 v1 xs) (h2 : At w B2 v2 xs) :
    Calls Try.prog 56 #[v1, v2] w fun e w' => e = .returned (.bool true) ∧ Below w.heap.size w w' := by
  obtain ⟨a1, c1, rfl⟩ := h1.slice
  obtain ⟨a2, c2, rfl⟩ := h2.slice
  have H1 : Hid (At w B1 (.slice a1 xs.length c1) xs) := h1
  have H2 : Hid (At w B2 (.slice a2 xs.length c2) xs) := h2
  clear h1 h2
  have hb : ((xs.length : Int) != (xs.length : Int)) = false := by simp
  go_enter Try.func56, Try.ntmps56
  go_wp2
  go_loopw [5] (fun i wr => ∃ k : Nat, i = .int .i64 k ∧ k ≤ xs.length ∧ Below w.heap.size w wr) (fun i _ => xs.length - (intOf i).toNat)
  case atStart => exact ⟨0, rfl, Nat.zero_le _, Below.refl _ _⟩
  case round =>
    obtain ⟨k, rfl, hk, hbel⟩ := hrel
    by_cases hlt : k < xs.length
    · obtain ⟨g1, o1, rfl, hg1, p0⟩ := (H1.out.below hbel).at hlt
      obtain ⟨g2, o2, rfl, hg2, u0⟩ := (H2.out.below hbel).at hlt
      have r1 : (k : Int) < (xs.length : Int) := by omega
      have hne : (xs[k] != xs[k]) = false := by simp
      go_wp2
      go_region
      all_goals go_wp2
      all_goals exact ⟨⟨k + 1, by simp, by omega, hbel.drew⟩, by simp [intOf]; omega⟩
    · go_wp2
      go_ret
      exact ⟨rfl, hbel⟩
end Nu
end Go.Proofs.Ytpninlangjfcfaa
