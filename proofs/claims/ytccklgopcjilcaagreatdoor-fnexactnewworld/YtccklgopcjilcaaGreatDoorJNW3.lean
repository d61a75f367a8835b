/- Laid together: Nu, ExA, ExB. -/
import Derived.Test.YtccklgopcjilcaaGreatDoorProg
import Derived.WalkKit
import Derived.Below
import Derived.WalkSpells
import Derived.WalkLawsBesides
import Derived.ProofKit
import Derived.OpenShut
import Derived.Deep.Slices
import Derived.Deep.QuietTactic
import Derived.BigQuiet
import Derived.BigRegion
import Derived.Deep.RegionWith
import Derived.Deep.OwnRows
import Derived.Laws.MakeOwn
import Derived.Test.YtccklgopcjilcaaGreatDoorJNW1
/- Lists of numbers in memory, and what the law does with them: copied, compared. -/
namespace Go.Proofs.YtccklgopcjilcaaGreatDoor
open Go.RowKit Go.Deep
set_option linter.unusedVariables false
namespace Nu
def At (w : World) (B : Nat) (v : Value) (xs : List Int) : Prop :=
  ∃ a cap, v = .slice a xs.length cap ∧ xs.length ≤ cap ∧ cap ≤ maxLen ∧ (xs = [] ∨ ∃ g o, a = some ⟨g, o, none⟩ ∧ B ≤ g ∧ g < w.heap.size ∧ ∀ i (h : i < xs.length), w.cell? ⟨g, o + i, none⟩ = some (.int .i64 xs[i]))
theorem At.kept {w w' : World} {B : Nat} {v : Value} {xs : List Int} (h : At w B v xs) (hs : w.heap.size ≤ w'.heap.size) (hb : ∀ g, B ≤ g → g < w.heap.size → w'.heap[g]? = w.heap[g]?) : At w' B v xs := by
  obtain ⟨a, cap, rfl, hle, hmx, h⟩ := h
  refine ⟨a, cap, rfl, hle, hmx, ?_⟩
  rcases h with h | ⟨g, o, rfl, hB, hg, hc⟩
  · exact .inl h
  · refine .inr ⟨g, o, rfl, hB, Nat.lt_of_lt_of_le hg hs, fun i hi => ?_⟩
    have e : ∀ off, w'.cell? ⟨g, off, none⟩ = w.cell? ⟨g, off, none⟩ := fun off => by simp only [World.cell?, hb g hB hg]
    simp only [e]
    exact hc i hi
theorem At.below {w w' : World} {B : Nat} {v : Value} {xs : List Int} (h : At w B v xs) (hb : Below w.heap.size w w') : At w' B v xs := h.kept hb.size (fun g _ hg => hb.block g hg)
theorem At.setBelow {w : World} {B : Nat} {v : Value} {xs : List Int} (h : At w B v xs) {b o : Nat} (ha : b < B) (x : Value) : At (w.setCell ⟨b, o, none⟩ x) B v xs :=
  h.kept (by simp [World.setCell]) (fun g hg _ => Below.heap_setCell _ _ _ _ (by dsimp only; omega))
theorem At.mono {w : World} {B B' : Nat} {v : Value} {xs : List Int} (h : At w B v xs) (hB : B' ≤ B) : At w B' v xs := by
  obtain ⟨a, cap, rfl, hle, hmx, h⟩ := h
  refine ⟨a, cap, rfl, hle, hmx, ?_⟩
  rcases h with h | ⟨g, o, rfl, hb, hg, hc⟩
  · exact .inl h
  · exact .inr ⟨g, o, rfl, Nat.le_trans hB hb, hg, hc⟩
theorem At.slice {w : World} {B : Nat} {v : Value} {xs : List Int} (h : At w B v xs) : ∃ a cap, v = .slice a xs.length cap := by
  obtain ⟨a, cap, rfl, _⟩ := h; exact ⟨a, cap, rfl⟩
theorem At.at {w : World} {B : Nat} {a : Option Addr} {n cap : Nat} {xs : List Int} (h : At w B (.slice a n cap) xs) {i : Nat} (hi : i < xs.length) :
    ∃ g o, a = some ⟨g, o, none⟩ ∧ g < w.heap.size ∧ w.cell? ⟨g, o + i, none⟩ = some (.int .i64 xs[i]) := by
  obtain ⟨a', cap', e, _, _, h⟩ := h
  cases e
  rcases h with h | ⟨g, o, rfl, _, hg, hc⟩
  · subst h; simp at hi
  · exact ⟨g, o, rfl, hg, hc i hi⟩
theorem At.cap {w : World} {B : Nat} {a : Option Addr} {n cap : Nat} {xs : List Int} (h : At w B (.slice a n cap) xs) : xs.length ≤ cap ∧ cap ≤ maxLen := by
  obtain ⟨a', cap', e, h1, h2, _⟩ := h; cases e; exact ⟨h1, h2⟩
theorem cellsOne : Tryz.prog.cellsOf 2 = 1 := by kernel_rfl
theorem cellsI64 : Tryz.prog.cellsOf 2 = 1 := by kernel_rfl
section
variable {H : Type} {enc : TypeId × Value → H} {w : World} {base : Nat} {spare : Nat → Bool} {held : Bool} {fuel : Nat}
theorem add_add (a : Addr) (x y : Nat) : (a.add x).add y = a.add (x + y) := by
  unfold Addr.add
  by_cases hx : x = 0
  · simp [hx]
  · by_cases hy : y = 0
    · simp [hy]
    · simp [hx, hy, Nat.add_assoc]
theorem lt_of_cell {a : Addr} {v : Value} (h : w.cell? a = some v) : a.block < w.heap.size := by
  rcases Nat.lt_or_ge a.block w.heap.size with h1 | h1
  · exact h1
  · simp [World.cell?, Array.getElem?_eq_none h1] at h
set_option maxRecDepth 100000 in
theorem open_one {cs : List Value} {x : DataW H × List MemPlace} (h : DataW.trod enc Tryz.prog w base spare held fuel 2 cs = some x) : ∃ e : Int, cs = [.int .i64 e] := by
  obtain ⟨n1, e1, _, _⟩ := DataW.trod_int Tryz.underlying2 h
  exact ⟨n1, e1⟩
set_option maxRecDepth 100000 in
theorem open_all {v : Value} {x : DataW H × List MemPlace} (h : DataW.trod enc Tryz.prog w base spare held fuel 110 [v] = some x) :
    ∃ es, At w 0 v es ∧ es.length ≤ maxLen := by
  rcases open_slice Tryz.underlying110 h with ⟨hcs, _⟩ | ⟨a, len, cap, m, n, D, Pl, hcs, hb, hl, hcm, hm, _, hx⟩
  · obtain rfl : v = .slice none 0 0 := by simpa using hcs
    exact ⟨[], ⟨none, 0, rfl, Nat.le_refl _, Nat.zero_le _, .inl rfl⟩, Nat.zero_le _⟩
  · obtain rfl : v = .slice (some a) len cap := by simpa using hcs
    have hlm : len ≤ m := by rw [hm]; split <;> omega
    rw [cellsI64] at hx
    have each : ∀ i, i < len → ∃ q : Int, w.cell? (a.add (i * 1)) = some (.int .i64 q) := fun i hi => by
      obtain ⟨cs', c0, d0⟩ := hx i (by omega)
      obtain ⟨e, rfl⟩ := open_one d0
      obtain ⟨_, _, hc⟩ := World.cells?_some c0
      have k0 := hc 0 (by omega)
      rw [add_add] at k0
      exact ⟨e, k0⟩
    haveI : Inhabited Int := ⟨0⟩
    obtain ⟨F, hF⟩ := choose_lt each
    refine ⟨(List.range len).map F, ?_, by simp; omega⟩
    refine ⟨some a, cap, by simp, by simpa using hl, hcm, ?_⟩
    rcases Nat.eq_zero_or_pos len with h0 | h0
    · exact .inl (by simp [h0])
    · right
      obtain ⟨b, off, spot⟩ := a
      have hspot : spot = none := by simpa [Addr.add] using World.cell?_spot (hF 0 h0)
      subst hspot
      refine ⟨b, off, rfl, Nat.zero_le _, lt_of_cell (hF 0 h0), fun i hi => ?_⟩
      have hi' : i < len := by simpa using hi
      have h2 := hF i hi'
      simp only [List.getElem_map, List.getElem_range]
      simpa [Go.WideShapes.add_plain] using h2
end
theorem infoOne : (Tryz.prog.info? 2).map (fun i => (i.zero, i.size, i.bytes)) = some (some (Value.int .i64 0), 1, 8) := by kernel_rfl
theorem make_row {P : Program} {t e : TypeId} {z : Value} {sz bytes : Nat} (ht : P.underlying t = some (.slice e)) (hinfo : (P.info? e).map (fun i => (i.zero, i.size, i.bytes)) = some (some z, sz, bytes))
    (n : Nat) (hb : bytes * n ≤ 281474976710656) (hn : n ≤ 9223372036854775807) (w : World) :
    (Instr.makeSlice t (.int .i64 (n : Int)) (.int .i64 (n : Int))).run P w = .ok (.slice (some ⟨w.heap.size, 0, none⟩) n n) (w.alloc (.cells (madeCells z.cells (n * sz)) e)) := by
  cases hi : P.info? e with
  | none => rw [hi] at hinfo; cases hinfo
  | some i =>
    rw [hi] at hinfo
    simp only [Option.map_some, Option.some.injEq, Prod.mk.injEq] at hinfo
    obtain ⟨h1, h2, h3⟩ := hinfo
    have hb' : (i.bytes : Int) * (n : Int) ≤ 281474976710656 := by
      have h : ((i.bytes * n : Nat) : Int) ≤ 281474976710656 := by rw [h3]; omega
      rwa [Int.natCast_mul] at h
    have h := run_make (P := P) w t e i z ht hi h1 .i64 .i64 n n (by omega) (Int.le_refl _) hb' (by omega)
    rw [h2] at h
    simpa using h
theorem made_row (w : World) (z : Array Value) (n : Nat) (e : TypeId) : ∃ f, (w.alloc (.cells (madeCells z n) e)).rowIs w.heap.size e n f := by
  have h := World.rowIs_alloc w (madeCells z n) e (fun i => (madeCells z n)[i]!) (fun i hi => by simp [hi])
  rw [size_madeCells] at h
  exact ⟨_, h⟩
/-- A row that may be written into, between two blocks. -/
def Own (w : World) (B C : Nat) (v : Value) (m : Nat) : Prop := ∃ g f, v = .slice (some ⟨g, 0, none⟩) m m ∧ B ≤ g ∧ g < C ∧ w.rowIs g 2 (m * 1) f
theorem row_at {w : World} {g : Nat} {t : TypeId} {f : Nat → Value} {xs : List Int} (h : w.rowIs g t (xs.length * 1) f)
    (hf : ∀ j (hj : j < xs.length), f (j) = .int .i64 xs[j]) (cap : Nat) (hc : xs.length ≤ cap) (hm : cap ≤ maxLen) : At w g (.slice (some ⟨g, 0, none⟩) xs.length cap) xs := by
  refine ⟨_, _, rfl, hc, hm, .inr ⟨g, 0, rfl, Nat.le_refl _, h.lt, fun i hi => ?_⟩⟩
  have h1 := hf i hi
  simp only [Nat.zero_add]
  rw [← h1]; exact h.cell (by omega)
theorem setOne {w : World} {g : Nat} {t : TypeId} {k : Nat} {f : Nat → Value} {xs : List Int} (h : w.rowIs g t (xs.length * 1) f)
    (hf : ∀ j (hj : j < xs.length), j < k → f (j) = .int .i64 xs[j]) (hk : k < xs.length) :
    ∃ f', (w.setCell ⟨g, k, none⟩ (.int .i64 xs[k])).rowIs g t (xs.length * 1) f' ∧ ∀ j (hj : j < xs.length), j < k + 1 → f' (j) = .int .i64 xs[j] := by
  refine ⟨_, (h.set (k) _), fun j hj hjk => ?_⟩
  by_cases e : j = k
  · subst e
    simp
  · have h1 := hf j hj (by omega)
    have n00 : ¬ j = k := by omega
    simp only [n00, if_false]
    exact h1
set_option maxRecDepth 100000 in
set_option maxHeartbeats 1000000 in
theorem toS2 (B : Nat) (xs : List Int) (v : Value) (w : World) (hl : xs.length ≤ 1048576) (ha : At w B v xs) :
    Calls Tryz.prog 190 #[v] w fun e w' => ∃ v', e = .returned v' ∧ At w' w.heap.size v' xs ∧ Own w' w.heap.size w'.heap.size v' xs.length ∧ Below w.heap.size w w' := by
  obtain ⟨a, cap, rfl⟩ := ha.slice
  have HA : Hid (At w B (.slice a xs.length cap) xs) := ha
  clear ha
  have hmk := make_row (P := Tryz.prog) Tryz.underlying110 infoOne xs.length (by omega) (by omega)
  go_enter Tryz.func190, Tryz.ntmps190
  go_wp2
  go_loopw [4] (fun i wr => ∃ (k : Nat) (f : Nat → Value), i = .int .i64 k ∧ k ≤ xs.length ∧ Hid (wr.rowIs w.heap.size 2 (xs.length * 1) f) ∧ Hid (∀ j (hj : j < xs.length), j < k → f (j) = .int .i64 xs[j]) ∧ Below w.heap.size w wr) (fun i _ => xs.length - (intOf i).toNat)
  case atStart =>
    obtain ⟨f, hf⟩ := made_row w (Value.int .i64 0).cells (xs.length * 1) 2
    exact ⟨0, f, rfl, Nat.zero_le _, (by have h := hf; simp only [Nat.mul_one] at h ⊢; exact h), fun j _ h => by omega, (Below.refl _ _).alloc (Nat.le_refl _) _⟩
  case round =>
    obtain ⟨k, f, rfl, hkl, HR, HF, hbel⟩ := hrel
    by_cases hlt : k < xs.length
    · obtain ⟨g, o, rfl, hg, c0⟩ := (HA.out.below hbel).at hlt
      have q1 : (k : Int) < (xs.length : Int) := by omega
      have hb1 : Below wr.heap.size wr wr := Below.refl _ _
      have hR1 : wr.rowIs w.heap.size 2 (xs.length * 1) f := HR.out.of_block (hb1.block _ HR.out.lt)
      have d0 := hR1.cell (i := k) (by omega)
      have f0 := hR1.frozen (k)
      obtain ⟨f', hR2, hF2⟩ := setOne (k := k) hR1 HF.out hlt
      have HR2 : Hid _ := hR2
      have HF2 : Hid _ := hF2
      have hB : Below w.heap.size w wr := hbel.trans (hb1.mono hbel.size)
      clear hR1 hR2 hF2
      go_wp2
      exact ⟨⟨k + 1, f', by simp, by omega, HR2, HF2, (hB.setCell (by simp) _)⟩, by simp [intOf]; omega⟩
    · have HX : Hid (At wr w.heap.size (.slice (some ⟨w.heap.size, 0, none⟩) xs.length xs.length) xs) := row_at HR.out (fun j hj => HF.out j hj (by omega)) _ (Nat.le_refl _) (by unfold maxLen; omega)
      go_wp2
      go_ret
      exact ⟨_, rfl, HX.out, ⟨w.heap.size, f, rfl, Nat.le_refl _, HR.out.lt, HR.out⟩, hbel⟩
theorem toS (B : Nat) (xs : List Int) (v : Value) (w : World) (hl : xs.length ≤ 1048576) (ha : At w B v xs) :
    Calls Tryz.prog 190 #[v] w fun e w' => ∃ v', e = .returned v' ∧ At w' w.heap.size v' xs ∧ Below w.heap.size w w' :=
  (toS2 B xs v w hl ha).mono (fun e w' ⟨v', h1, h2, _, h4⟩ => ⟨v', h1, h2, h4⟩)
set_option maxRecDepth 100000 in
set_option maxHeartbeats 2000000 in
theorem eqS (B1 B2 : Nat) (xs : List Int) (v1 v2 : Value) (w : World) (hl : xs.length ≤ 1048576) (h1 : At w B1 v1 xs) (h2 : At w B2 v2 xs) :
    Calls Tryz.prog 201 #[v1, v2] w fun e w' => e = .returned (.bool true) ∧ Below w.heap.size w w' := by
  obtain ⟨a1, c1, rfl⟩ := h1.slice
  obtain ⟨a2, c2, rfl⟩ := h2.slice
  have H1 : Hid (At w B1 (.slice a1 xs.length c1) xs) := h1
  have H2 : Hid (At w B2 (.slice a2 xs.length c2) xs) := h2
  clear h1 h2
  have hb : ((xs.length : Int) != (xs.length : Int)) = false := by simp
  go_enter Tryz.func201, Tryz.ntmps201
  go_wp2
  go_loopw [5] (fun i wr => ∃ k : Nat, i = .int .i64 k ∧ k ≤ xs.length ∧ Below w.heap.size w wr) (fun i _ => xs.length - (intOf i).toNat)
  case atStart => exact ⟨0, rfl, Nat.zero_le _, Below.refl _ _⟩
  case round =>
    obtain ⟨k, rfl, hk, hbel⟩ := hrel
    by_cases hlt : k < xs.length
    · obtain ⟨g1, o1, rfl, hg1, p0⟩ := (H1.out.below hbel).at hlt
      obtain ⟨g2, o2, rfl, hg2, u0⟩ := (H2.out.below hbel).at hlt
      have r1 : (k : Int) < (xs.length : Int) := by omega
      have hne : (xs[k] != xs[k]) = false := by simp
      go_wp2
      go_region
      all_goals go_wp2
      all_goals exact ⟨⟨k + 1, by simp, by omega, hbel.drew⟩, by simp [intOf]; omega⟩
    · go_wp2
      go_ret
      exact ⟨rfl, hbel⟩
end Nu
end Go.Proofs.YtccklgopcjilcaaGreatDoor
/- The specification's small functions of expressions. -/
namespace Go.Proofs.YtccklgopcjilcaaGreatDoor
open Go.RowKit
set_option linter.unusedVariables false
namespace Ex
open Nd (NodeD)
set_option maxRecDepth 100000 in
set_option maxHeartbeats 400000 in
theorem specIn (v a b : Int) (w : World) : Calls Tryz.prog 118 #[.int .i64 v, .int .i64 a, .int .i64 b] w fun e w' => e = .returned (.bool (inR v a b)) ∧ w' = w := by
  unfold inR
  by_cases h1 : a ≤ v
  · by_cases h2 : v ≤ b
    · go_enter Tryz.func118, Tryz.ntmps118
      go_wp2
      go_ret
      exact ⟨by simp [h1, h2], rfl⟩
    · go_enter Tryz.func118, Tryz.ntmps118
      go_wp2
      go_ret
      exact ⟨by simp [h2], rfl⟩
  · go_enter Tryz.func118, Tryz.ntmps118
    go_wp2
    go_ret
    exact ⟨by simp; omega, rfl⟩
set_option maxRecDepth 100000 in
set_option maxHeartbeats 400000 in
theorem specTwo (k : Int) (w : World) : Calls Tryz.prog 259 #[.int .i64 k] w fun e w' => e = .returned (.bool (two k)) ∧ w' = w := by
  have HI := hid (fun w' => specIn k 3 9 w')
  go_enter Tryz.func259, Tryz.ntmps259
  go_wp2_with (go_at_call 118; refine (HI.out _).mono ?_; rintro e w' ⟨rfl, rfl⟩)
  go_ret
  exact ⟨rfl, rfl⟩
set_option maxRecDepth 100000 in
set_option maxHeartbeats 1000000 in
theorem specVars (B : Nat) (xs : List Int) (v : Value) (w : World) (hl : xs.length ≤ 1048576) (ha : Nu.At w B v xs) :
    Calls Tryz.prog 188 #[v] w fun e w' => e = .returned (.int .i64 (vFault xs)) ∧ w' = w := by
  obtain ⟨a, cap, rfl⟩ := ha.slice
  have HA := hid ha
  clear ha
  by_cases h4 : xs.length = 4
  · have b1 : ((xs.length : Int) != 4) = false := by simp [h4]
    have H4 := hid h4
    have hlt4 : xs.length ≤ 4 := by omega
    clear h4
    go_enter Tryz.func188, Tryz.ntmps188
    go_wp2
    go_loop [3] (fun i => ∃ k : Nat, k ≤ xs.length ∧ i = .int .i64 k ∧ Hid (∀ j (h : j < xs.length), j < k → inR xs[j] (-1000000) 1000000 = true)) (fun i => xs.length - (intOf i).toNat)
    case atStart => exact ⟨0, Nat.zero_le _, rfl, fun j _ h => by omega⟩
    case round =>
      obtain ⟨k, hk, rfl, HJ⟩ := hrel
      by_cases hlt : k < xs.length
      · obtain ⟨g, o, rfl, hg, c0⟩ := HA.out.at hlt
        have q1 : (k : Int) < (xs.length : Int) := by omega
        have HI := hid (fun w' => specIn xs[k] (-1000000) 1000000 w')
        cases hin : inR xs[k] (-1000000) 1000000
        · have HV := hid (v_bad H4.out hlt hin)
          rw [hin] at HI
          clear hin
          go_wp2_with (go_at_call 118; refine (HI.out _).mono ?_; rintro e w' ⟨rfl, rfl⟩)
          go_ret
          exact ⟨by rw [HV.out]; rfl, rfl⟩
        · rw [hin] at HI
          have HJ2 : Hid (∀ j (h : j < xs.length), j < k + 1 → inR xs[j] (-1000000) 1000000 = true) := hid (fun j h hj => by
            by_cases e : j = k
            · subst e; exact hin
            · exact HJ.out j h (by omega))
          clear hin
          go_wp2_with (go_at_call 118; refine (HI.out _).mono ?_; rintro e w' ⟨rfl, rfl⟩)
          exact ⟨⟨k + 1, by omega, by simp, HJ2⟩, by simp [intOf]; omega⟩
      · have HV := hid (v_ok H4.out (fun j h => HJ.out j h (by omega)))
        go_wp2
        go_ret
        exact ⟨by rw [HV.out]; rfl, rfl⟩
  · have b1 : ((xs.length : Int) != 4) = true := by simp; omega
    have HV := hid (v_len h4)
    clear h4
    go_enter Tryz.func188, Tryz.ntmps188
    go_wp2
    go_ret
    exact ⟨by rw [HV.out]; rfl, rfl⟩
theorem specVarsB (B : Nat) (xs : List Int) (v : Value) (w : World) (hl : xs.length ≤ 1048576) (ha : Nu.At w B v xs) :
    Calls Tryz.prog 188 #[v] w fun e w' => e = .returned (.int .i64 (vFault xs)) ∧ Below w.heap.size w w' :=
  (specVars B xs v w hl ha).mono (fun e w' ⟨h1, h2⟩ => ⟨h1, by rw [h2]; exact Below.refl _ _⟩)
end Ex
end Go.Proofs.YtccklgopcjilcaaGreatDoor
/- The specification's look at one node. -/
namespace Go.Proofs.YtccklgopcjilcaaGreatDoor
open Go.RowKit
set_option linter.unusedVariables false
namespace Ex
open Nd (NodeD)
set_option maxRecDepth 100000 in
set_option maxHeartbeats 4000000 in
theorem specNode (n : NodeD) (i : Int) (g off : Nat) (w : World) (hi : 0 ≤ i) (hi2 : i ≤ 1000000) (c0 : w.cell? ⟨g, off, none⟩ = some (.int .i64 n.kind)) (c1 : w.cell? ⟨g, off + 1, none⟩ = some (.int .i64 n.value)) (c2 : w.cell? ⟨g, off + 2, none⟩ = some (.int .i64 n.left)) (c3 : w.cell? ⟨g, off + 3, none⟩ = some (.int .i64 n.right)) :
    Calls Tryz.prog 244 #[.pointer (some ⟨g, off, none⟩), .int .i64 i] w fun e w' => e = .returned (.int .i64 (nCode n i)) ∧ w' = w := by
  generalize hk : n.kind = kind at *
  generalize hv : n.value = value at *
  generalize hl : n.left = left at *
  generalize hr : n.right = right at *
  cases h0 : inR kind 1 10
  · skip
    have HV := hid (n_kind (n := n) (i := i) (by rw [hk]; exact h0))
    clear hk hv hl hr 
    go_enter Tryz.func244, Tryz.ntmps244
    go_wp2_with (first | (go_at_call 118; refine (specIn _ _ _ _).mono ?_; rintro e w1 ⟨rfl, rfl⟩; try rw [h0]) | (go_at_call 259; refine (specTwo _ _).mono ?_; rintro e w1 ⟨rfl, rfl⟩; try rw [tt]))
    go_ret
    exact ⟨by rw [HV.out]; rfl, rfl⟩
  · skip
    have hb := inR_iff.1 h0
    have N1 : (kind == 10) = true ∨ (kind == 10) = false := by cases (kind == 10) <;> simp
    by_cases hle : kind ≤ 2
    · have t10 : (kind == 10) = false := beq_eq_false_iff_ne.2 (by omega)
      have tt : two kind = false := inR_not.2 (by omega)
      cases b1 : (left != 0)
      · cases b2 : (right != 0)
        · by_cases k1 : kind = 1
          · have t1 : (kind == 1) = true := beq_iff_eq.2 k1
            have t2 : (kind == 2) = false := beq_eq_false_iff_ne.2 (by omega)
            cases b3 : inR value 0 9999
            · skip
              have HV := hid (n_wide (n := n) (i := i) (by rw [hk]; exact h0) (by simp [has, hk, hv, hl, hr, hle, t10, b1, b2]) (by simp [wide, hk, hv, t1, b3]))
              clear hk hv hl hr k1 hb N1
              go_enter Tryz.func244, Tryz.ntmps244
              go_wp2_with (first | (go_at_call 118; refine (specIn _ _ _ _).mono ?_; rintro e w1 ⟨rfl, rfl⟩; try rw [b3]; try rw [h0]) | (go_at_call 259; refine (specTwo _ _).mono ?_; rintro e w1 ⟨rfl, rfl⟩; try rw [tt]))
              go_ret
              exact ⟨by rw [HV.out]; rfl, rfl⟩
            · skip
              have HV := hid (n_ok (n := n) (i := i) (by rw [hk]; exact h0) (by simp [has, hk, hv, hl, hr, hle, t10, b1, b2]) (by simp [wide, hk, hv, t1, t2, b3]) (by simp [far, hk, hle, tt]))
              clear hk hv hl hr k1 hb N1
              go_enter Tryz.func244, Tryz.ntmps244
              go_wp2_with (first | (go_at_call 118; refine (specIn _ _ _ _).mono ?_; rintro e w1 ⟨rfl, rfl⟩; try rw [b3]; try rw [h0]) | (go_at_call 259; refine (specTwo _ _).mono ?_; rintro e w1 ⟨rfl, rfl⟩; try rw [tt]))
              go_ret
              exact ⟨by rw [HV.out]; rfl, rfl⟩
          · have t1 : (kind == 1) = false := beq_eq_false_iff_ne.2 k1
            have t2 : (kind == 2) = true := beq_iff_eq.2 (by omega)
            cases b3 : inR value 0 3
            · skip
              have HV := hid (n_wide (n := n) (i := i) (by rw [hk]; exact h0) (by simp [has, hk, hv, hl, hr, hle, t10, b1, b2]) (by simp [wide, hk, hv, t1, t2, b3]))
              clear hk hv hl hr k1 hb N1
              go_enter Tryz.func244, Tryz.ntmps244
              go_wp2_with (first | (go_at_call 118; refine (specIn _ _ _ _).mono ?_; rintro e w1 ⟨rfl, rfl⟩; try rw [b3]; try rw [h0]) | (go_at_call 259; refine (specTwo _ _).mono ?_; rintro e w1 ⟨rfl, rfl⟩; try rw [tt]))
              go_ret
              exact ⟨by rw [HV.out]; rfl, rfl⟩
            · skip
              have HV := hid (n_ok (n := n) (i := i) (by rw [hk]; exact h0) (by simp [has, hk, hv, hl, hr, hle, t10, b1, b2]) (by simp [wide, hk, hv, t1, t2, b3]) (by simp [far, hk, hle, tt]))
              clear hk hv hl hr k1 hb N1
              go_enter Tryz.func244, Tryz.ntmps244
              go_wp2_with (first | (go_at_call 118; refine (specIn _ _ _ _).mono ?_; rintro e w1 ⟨rfl, rfl⟩; try rw [b3]; try rw [h0]) | (go_at_call 259; refine (specTwo _ _).mono ?_; rintro e w1 ⟨rfl, rfl⟩; try rw [tt]))
              go_ret
              exact ⟨by rw [HV.out]; rfl, rfl⟩
        · skip
          have HV := hid (n_has (n := n) (i := i) (by rw [hk]; exact h0) (by simp [has, hk, hv, hl, hr, hle, b1, b2]))
          clear hk hv hl hr hb N1
          go_enter Tryz.func244, Tryz.ntmps244
          go_wp2_with (first | (go_at_call 118; refine (specIn _ _ _ _).mono ?_; rintro e w1 ⟨rfl, rfl⟩; try rw [h0]) | (go_at_call 259; refine (specTwo _ _).mono ?_; rintro e w1 ⟨rfl, rfl⟩; try rw [tt]))
          go_ret
          exact ⟨by rw [HV.out]; rfl, rfl⟩
      · skip
        have HV := hid (n_has (n := n) (i := i) (by rw [hk]; exact h0) (by simp [has, hk, hv, hl, hr, hle, b1]))
        clear hk hv hl hr hb N1
        go_enter Tryz.func244, Tryz.ntmps244
        go_wp2_with (first | (go_at_call 118; refine (specIn _ _ _ _).mono ?_; rintro e w1 ⟨rfl, rfl⟩; try rw [h0]) | (go_at_call 259; refine (specTwo _ _).mono ?_; rintro e w1 ⟨rfl, rfl⟩; try rw [tt]))
        go_ret
        exact ⟨by rw [HV.out]; rfl, rfl⟩
    · have t1 : (kind == 1) = false := beq_eq_false_iff_ne.2 (by omega)
      have t2 : (kind == 2) = false := beq_eq_false_iff_ne.2 (by omega)
      cases b1 : (value != 0)
      · by_cases k10 : kind = 10
        · have t10 : (kind == 10) = true := beq_iff_eq.2 k10
          have tt : two kind = false := inR_not.2 (by omega)
          cases b2 : (right != 0)
          · cases b3 : inR left 0 (i - 1)
            · skip
              have HV := hid (n_far (n := n) (i := i) (by rw [hk]; exact h0) (by simp [has, hk, hv, hl, hr, hle, t10, b1, b2]) (by simp [wide, hk, hv, t1, t2]) (by simp [far, hk, hl, hle, b3]))
              clear hk hv hl hr k10 hb N1
              go_enter Tryz.func244, Tryz.ntmps244
              go_wp2_with (first | (go_at_call 118; refine (specIn _ _ _ _).mono ?_; rintro e w1 ⟨rfl, rfl⟩; try rw [b3]; try rw [h0]) | (go_at_call 259; refine (specTwo _ _).mono ?_; rintro e w1 ⟨rfl, rfl⟩; try rw [tt]))
              go_ret
              exact ⟨by rw [HV.out]; rfl, rfl⟩
            · skip
              have HV := hid (n_ok (n := n) (i := i) (by rw [hk]; exact h0) (by simp [has, hk, hv, hl, hr, hle, t10, b1, b2]) (by simp [wide, hk, hv, t1, t2]) (by simp [far, hk, hl, hle, b3, tt]))
              clear hk hv hl hr k10 hb N1
              go_enter Tryz.func244, Tryz.ntmps244
              go_wp2_with (first | (go_at_call 118; refine (specIn _ _ _ _).mono ?_; rintro e w1 ⟨rfl, rfl⟩; try rw [b3]; try rw [h0]) | (go_at_call 259; refine (specTwo _ _).mono ?_; rintro e w1 ⟨rfl, rfl⟩; try rw [tt]))
              go_ret
              exact ⟨by rw [HV.out]; rfl, rfl⟩
          · skip
            have HV := hid (n_has (n := n) (i := i) (by rw [hk]; exact h0) (by simp [has, hk, hv, hl, hr, hle, t10, b1, b2]))
            clear hk hv hl hr k10 hb N1
            go_enter Tryz.func244, Tryz.ntmps244
            go_wp2_with (first | (go_at_call 118; refine (specIn _ _ _ _).mono ?_; rintro e w1 ⟨rfl, rfl⟩; try rw [h0]) | (go_at_call 259; refine (specTwo _ _).mono ?_; rintro e w1 ⟨rfl, rfl⟩; try rw [tt]))
            go_ret
            exact ⟨by rw [HV.out]; rfl, rfl⟩
        · have t10 : (kind == 10) = false := beq_eq_false_iff_ne.2 k10
          have tt : two kind = true := inR_iff.2 (by omega)
          cases b3 : inR left 0 (i - 1)
          · skip
            have HV := hid (n_far (n := n) (i := i) (by rw [hk]; exact h0) (by simp [has, hk, hv, hl, hr, hle, t10, b1]) (by simp [wide, hk, hv, t1, t2]) (by simp [far, hk, hl, hle, b3]))
            clear hk hv hl hr k10 hb N1
            go_enter Tryz.func244, Tryz.ntmps244
            go_wp2_with (first | (go_at_call 118; refine (specIn _ _ _ _).mono ?_; rintro e w1 ⟨rfl, rfl⟩; try rw [b3]; try rw [h0]) | (go_at_call 259; refine (specTwo _ _).mono ?_; rintro e w1 ⟨rfl, rfl⟩; try rw [tt]))
            go_ret
            exact ⟨by rw [HV.out]; rfl, rfl⟩
          · skip
            cases b4 : inR right 0 (i - 1)
            · skip
              have HV := hid (n_far (n := n) (i := i) (by rw [hk]; exact h0) (by simp [has, hk, hv, hl, hr, hle, t10, b1]) (by simp [wide, hk, hv, t1, t2]) (by simp [far, hk, hl, hr, hle, b3, b4, tt]))
              clear hk hv hl hr k10 hb N1
              go_enter Tryz.func244, Tryz.ntmps244
              go_wp2_with (first | (go_at_call 118; refine (specIn _ _ _ _).mono ?_; rintro e w1 ⟨rfl, rfl⟩; try rw [b3]; try rw [b4]; try rw [h0]) | (go_at_call 259; refine (specTwo _ _).mono ?_; rintro e w1 ⟨rfl, rfl⟩; try rw [tt]))
              go_ret
              exact ⟨by rw [HV.out]; rfl, rfl⟩
            · skip
              have HV := hid (n_ok (n := n) (i := i) (by rw [hk]; exact h0) (by simp [has, hk, hv, hl, hr, hle, t10, b1]) (by simp [wide, hk, hv, t1, t2]) (by simp [far, hk, hl, hr, hle, b3, b4, tt]))
              clear hk hv hl hr k10 hb N1
              go_enter Tryz.func244, Tryz.ntmps244
              go_wp2_with (first | (go_at_call 118; refine (specIn _ _ _ _).mono ?_; rintro e w1 ⟨rfl, rfl⟩; try rw [b3]; try rw [b4]; try rw [h0]) | (go_at_call 259; refine (specTwo _ _).mono ?_; rintro e w1 ⟨rfl, rfl⟩; try rw [tt]))
              go_ret
              exact ⟨by rw [HV.out]; rfl, rfl⟩
      · skip
        have HV := hid (n_has (n := n) (i := i) (by rw [hk]; exact h0) (by simp [has, hk, hv, hl, hr, hle, b1]))
        clear hk hv hl hr hb N1
        go_enter Tryz.func244, Tryz.ntmps244
        go_wp2_with (first | (go_at_call 118; refine (specIn _ _ _ _).mono ?_; rintro e w1 ⟨rfl, rfl⟩; try rw [h0]) | (go_at_call 259; refine (specTwo _ _).mono ?_; rintro e w1 ⟨rfl, rfl⟩; try rw [tt]))
        go_ret
        exact ⟨by rw [HV.out]; rfl, rfl⟩
end Ex
end Go.Proofs.YtccklgopcjilcaaGreatDoor
