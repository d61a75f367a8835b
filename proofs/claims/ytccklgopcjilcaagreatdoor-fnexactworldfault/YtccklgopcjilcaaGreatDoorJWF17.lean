/- Laid together: ClA, DkA, DkC, JnM. -/
import Derived.Test.YtccklgopcjilcaaGreatDoorJWF10
import Derived.Test.YtccklgopcjilcaaGreatDoorJWF1
import Derived.Test.YtccklgopcjilcaaGreatDoorJWF16
import Derived.Test.YtccklgopcjilcaaGreatDoorProg
/- Rows of claims in memory: the law's measure of them, its copies, its comparison; an argument that is one. -/
namespace Go.Proofs.YtccklgopcjilcaaGreatDoor
open Go.RowKit Go.Deep
set_option linter.unusedVariables false
namespace Cl
open Nd (lt_of_cell add_add make_row made_row cellsI64)
structure ClD where
  inst : Int
  step : Int
  user : Int
def At (w : World) (B : Nat) (v : Value) (xs : List ClD) : Prop :=
  ∃ a cap, v = .slice a xs.length cap ∧ xs.length ≤ cap ∧ cap ≤ maxLen ∧ (xs = [] ∨ ∃ g o, a = some ⟨g, o, none⟩ ∧ B ≤ g ∧ g < w.heap.size ∧ ∀ i (h : i < xs.length), w.cell? ⟨g, o + i * 3, none⟩ = some (.int .i64 xs[i].inst) ∧ w.cell? ⟨g, o + i * 3 + 1, none⟩ = some (.int .i64 xs[i].step) ∧ w.cell? ⟨g, o + i * 3 + 2, none⟩ = some (.int .i64 xs[i].user))
theorem At.kept {w w' : World} {B : Nat} {v : Value} {xs : List ClD} (h : At w B v xs) (hs : w.heap.size ≤ w'.heap.size) (hb : ∀ g, B ≤ g → g < w.heap.size → w'.heap[g]? = w.heap[g]?) : At w' B v xs := by
  obtain ⟨a, cap, rfl, hle, hmx, h⟩ := h
  refine ⟨a, cap, rfl, hle, hmx, ?_⟩
  rcases h with h | ⟨g, o, rfl, hB, hg, hc⟩
  · exact .inl h
  · refine .inr ⟨g, o, rfl, hB, Nat.lt_of_lt_of_le hg hs, fun i hi => ?_⟩
    have e : ∀ off, w'.cell? ⟨g, off, none⟩ = w.cell? ⟨g, off, none⟩ := fun off => by simp only [World.cell?, hb g hB hg]
    simp only [e]
    exact hc i hi
theorem At.below {w w' : World} {B : Nat} {v : Value} {xs : List ClD} (h : At w B v xs) (hb : Below w.heap.size w w') : At w' B v xs := h.kept hb.size (fun g _ hg => hb.block g hg)
theorem At.setBelow {w : World} {B : Nat} {v : Value} {xs : List ClD} (h : At w B v xs) {b o : Nat} (ha : b < B) (x : Value) : At (w.setCell ⟨b, o, none⟩ x) B v xs :=
  h.kept (by simp [World.setCell]) (fun g hg _ => Below.heap_setCell _ _ _ _ (by dsimp only; omega))
theorem At.mono {w : World} {B B' : Nat} {v : Value} {xs : List ClD} (h : At w B v xs) (hB : B' ≤ B) : At w B' v xs := by
  obtain ⟨a, cap, rfl, hle, hmx, h⟩ := h
  refine ⟨a, cap, rfl, hle, hmx, ?_⟩
  rcases h with h | ⟨g, o, rfl, hb, hg, hc⟩
  · exact .inl h
  · exact .inr ⟨g, o, rfl, Nat.le_trans hB hb, hg, hc⟩
theorem At.slice {w : World} {B : Nat} {v : Value} {xs : List ClD} (h : At w B v xs) : ∃ a cap, v = .slice a xs.length cap := by
  obtain ⟨a, cap, rfl, _⟩ := h; exact ⟨a, cap, rfl⟩
theorem At.at {w : World} {B : Nat} {a : Option Addr} {n cap : Nat} {xs : List ClD} (h : At w B (.slice a n cap) xs) {i : Nat} (hi : i < xs.length) :
    ∃ g o, a = some ⟨g, o, none⟩ ∧ g < w.heap.size ∧ w.cell? ⟨g, o + i * 3, none⟩ = some (.int .i64 xs[i].inst) ∧ w.cell? ⟨g, o + i * 3 + 1, none⟩ = some (.int .i64 xs[i].step) ∧ w.cell? ⟨g, o + i * 3 + 2, none⟩ = some (.int .i64 xs[i].user) := by
  obtain ⟨a', cap', e, _, _, h⟩ := h
  cases e
  rcases h with h | ⟨g, o, rfl, _, hg, hc⟩
  · subst h; simp at hi
  · exact ⟨g, o, rfl, hg, hc i hi⟩
theorem At.cap {w : World} {B : Nat} {a : Option Addr} {n cap : Nat} {xs : List ClD} (h : At w B (.slice a n cap) xs) : xs.length ≤ cap ∧ cap ≤ maxLen := by
  obtain ⟨a', cap', e, h1, h2, _⟩ := h; cases e; exact ⟨h1, h2⟩
theorem At.nil (w : World) (B : Nat) : At w B (.slice none 0 0) [] := ⟨_, _, rfl, Nat.le_refl _, Nat.zero_le _, .inl rfl⟩
theorem cellsOne : Tryz.prog.cellsOf 196 = 3 := by kernel_rfl
section
variable {H : Type} {enc : TypeId × Value → H} {w : World} {base : Nat} {spare : Nat → Bool} {held : Bool} {fuel : Nat}
set_option maxRecDepth 100000 in
theorem open_one {cs : List Value} {x : DataW H × List MemPlace} (h : DataW.trod enc Tryz.prog w base spare held fuel 196 cs = some x) : ∃ e : ClD, cs = [.int .i64 e.inst, .int .i64 e.step, .int .i64 e.user] := by
  obtain ⟨xs, n, rfl, _, hlen, hxl, hf⟩ := DataW.trod_struct Tryz.underlying196 h
  have h0 := hf 0 _ rfl
  have h1 := hf 1 _ rfl
  have h2 := hf 2 _ rfl
  rw [cellsOne] at hlen
  match cs, hlen with
  | [a, b, c], _ =>
    match xs, hxl with
    | [x0, x1, x2], _ =>
      simp [cellsI64] at h0 h1 h2
      obtain ⟨n0, e0, _, _⟩ := DataW.trod_int Tryz.underlying2 h0
      obtain ⟨n1, e1, _, _⟩ := DataW.trod_int Tryz.underlying2 h1
      obtain ⟨n2, e2, _, _⟩ := DataW.trod_int Tryz.underlying2 h2
      simp at e0 e1 e2
      subst e0 e1 e2
      exact ⟨⟨n0, n1, n2⟩, rfl⟩
set_option maxRecDepth 100000 in
theorem open_all {v : Value} {x : DataW H × List MemPlace} (h : DataW.trod enc Tryz.prog w base spare held fuel 48 [v] = some x) :
    ∃ es, At w 0 v es ∧ es.length ≤ maxLen := by
  rcases open_slice Tryz.underlying48 h with ⟨hcs, _⟩ | ⟨a, len, cap, m, n, D, Pl, hcs, hb, hl, hcm, hm, _, hx⟩
  · obtain rfl : v = .slice none 0 0 := by simpa using hcs
    exact ⟨[], ⟨none, 0, rfl, Nat.le_refl _, Nat.zero_le _, .inl rfl⟩, Nat.zero_le _⟩
  · obtain rfl : v = .slice (some a) len cap := by simpa using hcs
    have hlm : len ≤ m := by rw [hm]; split <;> omega
    rw [cellsOne] at hx
    have each : ∀ i, i < len → ∃ q : ClD, w.cell? (a.add (i * 3)) = some (.int .i64 q.inst) ∧ w.cell? (a.add (i * 3 + 1)) = some (.int .i64 q.step) ∧ w.cell? (a.add (i * 3 + 2)) = some (.int .i64 q.user) := fun i hi => by
      obtain ⟨cs', c0, d0⟩ := hx i (by omega)
      obtain ⟨e, rfl⟩ := open_one d0
      obtain ⟨_, _, hc⟩ := World.cells?_some c0
      have k0 := hc 0 (by omega)
      have k1 := hc 1 (by omega)
      have k2 := hc 2 (by omega)
      rw [Nd.add_add] at k0 k1 k2
      exact ⟨e, k0, k1, k2⟩
    haveI : Inhabited ClD := ⟨⟨0, 0, 0⟩⟩
    obtain ⟨F, hF⟩ := choose_lt each
    refine ⟨(List.range len).map F, ?_, by simp; omega⟩
    refine ⟨some a, cap, by simp, by simpa using hl, hcm, ?_⟩
    rcases Nat.eq_zero_or_pos len with h0 | h0
    · exact .inl (by simp [h0])
    · right
      obtain ⟨b, off, spot⟩ := a
      have hspot : spot = none := by simpa [Addr.add] using World.cell?_spot (hF 0 h0).1
      subst hspot
      refine ⟨b, off, rfl, Nat.zero_le _, lt_of_cell (hF 0 h0).1, fun i hi => ?_⟩
      have hi' : i < len := by simpa using hi
      have h2 := hF i hi'
      simp only [List.getElem_map, List.getElem_range]
      simp only [Go.WideShapes.add_plain, ← Nat.add_assoc] at h2 ⊢
      exact h2
end
set_option maxRecDepth 100000 in
set_option maxHeartbeats 400000 in
theorem szS (xs : List ClD) (v : Value) (n : Int) (B : Nat) (w : World) (h0 : 0 ≤ n) (hn : n ≤ 1048576) (hl : xs.length ≤ maxLen) (ha : At w B v xs) :
    Calls Tryz.prog 80 #[v, .int .i64 n] w fun e w' => (∃ r : Int, e = .returned (.int .i64 r) ∧ -1 ≤ r ∧ r ≤ n ∧ (0 ≤ r → (xs.length : Int) ≤ n)) ∧ w' = w := by
  obtain ⟨a, cap, rfl⟩ := ha.slice
  clear ha
  unfold maxLen at hl
  by_cases q1 : n - (xs.length : Int) < 0
  · go_enter Tryz.func80, Tryz.ntmps80
    go_wp2
    go_ret
    exact ⟨⟨-1, rfl, by omega, by omega, by omega⟩, rfl⟩
  · go_enter Tryz.func80, Tryz.ntmps80
    go_wp2
    go_ret
    exact ⟨⟨_, rfl, by omega, by omega, by omega⟩, rfl⟩
theorem infoOne : (Tryz.prog.info? 143).map (fun i => (i.zero, i.size, i.bytes)) = some (some (Value.agg #[.int .i64 0, .int .i64 0, .int .i64 0]), 3, 24) := by kernel_rfl
/-- A row that may be written into, between two blocks. -/
def Own (w : World) (B C : Nat) (v : Value) (m : Nat) : Prop := ∃ g f, v = .slice (some ⟨g, 0, none⟩) m m ∧ B ≤ g ∧ g < C ∧ w.rowIs g 143 (m * 3) f
theorem Own.kept {w w' : World} {B C m : Nat} {v : Value} (h : Own w B C v m) (hb : ∀ g, B ≤ g → g < C → g < w.heap.size → w'.heap[g]? = w.heap[g]?) : Own w' B C v m := by
  obtain ⟨g, f, rfl, h1, h2, h3⟩ := h
  exact ⟨g, f, rfl, h1, h2, h3.of_block (hb g h1 h2 h3.lt)⟩
theorem Own.below {w w' : World} {B C m : Nat} {v : Value} (h : Own w B C v m) (hb : Below w.heap.size w w') : Own w' B C v m := h.kept (fun g _ _ hg => hb.block g hg)
theorem Own.mono {w : World} {B B' C C' m : Nat} {v : Value} (h : Own w B C v m) (hB : B' ≤ B) (hC : C ≤ C') : Own w B' C' v m := by
  obtain ⟨g, f, rfl, h1, h2, h3⟩ := h
  exact ⟨g, f, rfl, Nat.le_trans hB h1, Nat.lt_of_lt_of_le h2 hC, h3⟩
theorem row_at {w : World} {g : Nat} {t : TypeId} {f : Nat → Value} {xs : List ClD} (h : w.rowIs g t (xs.length * 3) f)
    (hf : ∀ j (hj : j < xs.length), f (j * 3) = .int .i64 xs[j].inst ∧ f (j * 3 + 1) = .int .i64 xs[j].step ∧ f (j * 3 + 2) = .int .i64 xs[j].user) (cap : Nat) (hc : xs.length ≤ cap) (hm : cap ≤ maxLen) : At w g (.slice (some ⟨g, 0, none⟩) xs.length cap) xs := by
  refine ⟨_, _, rfl, hc, hm, .inr ⟨g, 0, rfl, Nat.le_refl _, h.lt, fun i hi => ?_⟩⟩
  have h1 := hf i hi
  simp only [Nat.zero_add]
  obtain ⟨e0, e1, e2⟩ := h1
  rw [← e0, ← e1, ← e2]
  exact ⟨h.cell (by omega), h.cell (by omega), h.cell (by omega)⟩
theorem setOne {w : World} {g : Nat} {t : TypeId} {k : Nat} {f : Nat → Value} {xs : List ClD} (h : w.rowIs g t (xs.length * 3) f)
    (hf : ∀ j (hj : j < xs.length), j < k → f (j * 3) = .int .i64 xs[j].inst ∧ f (j * 3 + 1) = .int .i64 xs[j].step ∧ f (j * 3 + 2) = .int .i64 xs[j].user) (hk : k < xs.length) :
    ∃ f', (((w.setCell ⟨g, k * 3, none⟩ (.int .i64 xs[k].inst)).setCell ⟨g, k * 3 + 1, none⟩ (.int .i64 xs[k].step)).setCell ⟨g, k * 3 + 2, none⟩ (.int .i64 xs[k].user)).rowIs g t (xs.length * 3) f' ∧ ∀ j (hj : j < xs.length), j < k + 1 → f' (j * 3) = .int .i64 xs[j].inst ∧ f' (j * 3 + 1) = .int .i64 xs[j].step ∧ f' (j * 3 + 2) = .int .i64 xs[j].user := by
  refine ⟨_, (((h.set (k * 3) _).set (k * 3 + 1) _).set (k * 3 + 2) _), fun j hj hjk => ?_⟩
  by_cases e : j = k
  · subst e
    exact ⟨by simp, by simp, by simp⟩
  · have h1 := hf j hj (by omega)
    have n00 : ¬ j * 3 = k * 3 := by omega
    have n01 : ¬ j * 3 = k * 3 + 1 := by omega
    have n02 : ¬ j * 3 = k * 3 + 2 := by omega
    have n10 : ¬ j * 3 + 1 = k * 3 := by omega
    have n11 : ¬ j * 3 + 1 = k * 3 + 1 := by omega
    have n12 : ¬ j * 3 + 1 = k * 3 + 2 := by omega
    have n20 : ¬ j * 3 + 2 = k * 3 := by omega
    have n21 : ¬ j * 3 + 2 = k * 3 + 1 := by omega
    have n22 : ¬ j * 3 + 2 = k * 3 + 2 := by omega
    simp only [n00, n01, n02, n10, n11, n12, n20, n21, n22, if_false]
    exact h1
set_option maxRecDepth 100000 in
set_option maxHeartbeats 400000 in
theorem toOne (x : ClD) (w : World) : Calls Tryz.prog 131 #[.agg #[.int .i64 x.inst, .int .i64 x.step, .int .i64 x.user]] w fun e w' => e = .returned (.agg #[.int .i64 x.inst, .int .i64 x.step, .int .i64 x.user]) ∧ Below w.heap.size w w' := by
  go_enter Tryz.func131, Tryz.ntmps131
  go_wp2
  exact bodyPost_ret (v := .agg #[.int .i64 x.inst, .int .i64 x.step, .int .i64 x.user]) (by simp [results, Tryz.results131, go_sem]) rfl ⟨rfl, (((Below.refl _ w).alloc (Nat.le_refl _) _).alloc (by simp) _).alloc (by simp; omega) _⟩
set_option maxRecDepth 100000 in
set_option maxHeartbeats 1000000 in
theorem toS2 (B : Nat) (xs : List ClD) (v : Value) (w : World) (hl : xs.length ≤ 1048576) (ha : At w B v xs) :
    Calls Tryz.prog 86 #[v] w fun e w' => ∃ v', e = .returned v' ∧ At w' w.heap.size v' xs ∧ Own w' w.heap.size w'.heap.size v' xs.length ∧ Below w.heap.size w w' := by
  obtain ⟨a, cap, rfl⟩ := ha.slice
  have HA : Hid (At w B (.slice a xs.length cap) xs) := ha
  clear ha
  have hmk := make_row (P := Tryz.prog) Tryz.underlying28 infoOne xs.length (by omega) (by omega)
  go_enter Tryz.func86, Tryz.ntmps86
  go_wp2
  go_loopw [4] (fun i wr => ∃ (k : Nat) (f : Nat → Value), i = .int .i64 k ∧ k ≤ xs.length ∧ Hid (wr.rowIs w.heap.size 143 (xs.length * 3) f) ∧ Hid (∀ j (hj : j < xs.length), j < k → f (j * 3) = .int .i64 xs[j].inst ∧ f (j * 3 + 1) = .int .i64 xs[j].step ∧ f (j * 3 + 2) = .int .i64 xs[j].user) ∧ Below w.heap.size w wr) (fun i _ => xs.length - (intOf i).toNat)
  case atStart =>
    obtain ⟨f, hf⟩ := made_row w (Value.agg #[.int .i64 0, .int .i64 0, .int .i64 0]).cells (xs.length * 3) 143
    exact ⟨0, f, rfl, Nat.zero_le _, hf, fun j _ h => by omega, (Below.refl _ _).alloc (Nat.le_refl _) _⟩
  case round =>
    obtain ⟨k, f, rfl, hkl, HR, HF, hbel⟩ := hrel
    by_cases hlt : k < xs.length
    · obtain ⟨g, o, rfl, hg, c0, c1, c2⟩ := (HA.out.below hbel).at hlt
      have q1 : (k : Int) < (xs.length : Int) := by omega
      go_wp2_with fail
      refine (toOne xs[k] _).mono ?_
      rintro e w1 ⟨rfl, hb1⟩
      have hR1 : w1.rowIs w.heap.size 143 (xs.length * 3) f := HR.out.of_block (hb1.block _ HR.out.lt)
      have d0 := hR1.cell (i := k * 3) (by omega)
      have f0 := hR1.frozen (k * 3)
      have d1 := hR1.cell (i := k * 3 + 1) (by omega)
      have f1 := hR1.frozen (k * 3 + 1)
      have d2 := hR1.cell (i := k * 3 + 2) (by omega)
      have f2 := hR1.frozen (k * 3 + 2)
      obtain ⟨f', hR2, hF2⟩ := setOne (k := k) hR1 HF.out hlt
      have HR2 : Hid _ := hR2
      have HF2 : Hid _ := hF2
      have hB : Below w.heap.size w w1 := hbel.trans (hb1.mono hbel.size)
      clear hR1 hR2 hF2
      go_wp2
      exact ⟨⟨k + 1, f', by simp, by omega, HR2, HF2, (((hB.setCell (by simp) _).setCell (by simp) _).setCell (by simp) _)⟩, by simp [intOf]; omega⟩
    · have HX : Hid (At wr w.heap.size (.slice (some ⟨w.heap.size, 0, none⟩) xs.length xs.length) xs) := row_at HR.out (fun j hj => HF.out j hj (by omega)) _ (Nat.le_refl _) (by unfold maxLen; omega)
      go_wp2
      go_ret
      exact ⟨_, rfl, HX.out, ⟨w.heap.size, f, rfl, Nat.le_refl _, HR.out.lt, HR.out⟩, hbel⟩
set_option maxRecDepth 100000 in
set_option maxHeartbeats 400000 in
theorem eqOne (x : ClD) (w : World) : Calls Tryz.prog 138 #[.agg #[.int .i64 x.inst, .int .i64 x.step, .int .i64 x.user], .agg #[.int .i64 x.inst, .int .i64 x.step, .int .i64 x.user]] w fun e w' => e = .returned (.bool true) ∧ Below w.heap.size w w' := by
  have h0 : (x.inst != x.inst) = false := by simp
  have h1 : (x.step != x.step) = false := by simp
  have h2 : (x.user != x.user) = false := by simp
  go_enter Tryz.func138, Tryz.ntmps138
  go_wp2
  go_ret
  exact ⟨rfl, ((Below.refl _ w).alloc (Nat.le_refl _) _).alloc (by simp) _⟩
set_option maxRecDepth 100000 in
set_option maxHeartbeats 2000000 in
theorem eqS (B1 B2 : Nat) (xs : List ClD) (v1 v2 : Value) (w : World) (hl : xs.length ≤ 1048576) (h1 : At w B1 v1 xs) (h2 : At w B2 v2 xs) :
    Calls Tryz.prog 90 #[v1, v2] w fun e w' => e = .returned (.bool true) ∧ Below w.heap.size w w' := by
  obtain ⟨a1, c1, rfl⟩ := h1.slice
  obtain ⟨a2, c2, rfl⟩ := h2.slice
  have H1 : Hid (At w B1 (.slice a1 xs.length c1) xs) := h1
  have H2 : Hid (At w B2 (.slice a2 xs.length c2) xs) := h2
  clear h1 h2
  have hb : ((xs.length : Int) != (xs.length : Int)) = false := by simp
  go_enter Tryz.func90, Tryz.ntmps90
  go_wp2
  go_loopw [5] (fun i wr => ∃ k : Nat, i = .int .i64 k ∧ k ≤ xs.length ∧ Below w.heap.size w wr) (fun i _ => xs.length - (intOf i).toNat)
  case atStart => exact ⟨0, rfl, Nat.zero_le _, Below.refl _ _⟩
  case round =>
    obtain ⟨k, rfl, hk, hbel⟩ := hrel
    by_cases hlt : k < xs.length
    · obtain ⟨g1, o1, rfl, hg1, p0, p1, p2⟩ := (H1.out.below hbel).at hlt
      obtain ⟨g2, o2, rfl, hg2, u0, u1, u2⟩ := (H2.out.below hbel).at hlt
      have r1 : (k : Int) < (xs.length : Int) := by omega
      have HE : Hid (∀ w : World, Calls Tryz.prog 138 #[.agg #[.int .i64 xs[k].inst, .int .i64 xs[k].step, .int .i64 xs[k].user], .agg #[.int .i64 xs[k].inst, .int .i64 xs[k].step, .int .i64 xs[k].user]] w fun e w' => e = .returned (.bool true) ∧ Below w.heap.size w w') := fun w => eqOne xs[k] w
      go_wp2
      go_region_with ((go_at_call 138; refine (HE.out _).mono ?_; rintro e w1 ⟨rfl, hb1⟩; have hbb : Below wr.heap.size wr w1 := ((Below.refl wr.heap.size wr).drew).trans hb1))
      all_goals go_wp2
      all_goals exact ⟨⟨k + 1, by simp, by omega, hbel.trans (hbb.mono hbel.size)⟩, by simp [intOf]; omega⟩
    · go_wp2
      go_ret
      exact ⟨rfl, hbel⟩
end Cl
end Go.Proofs.YtccklgopcjilcaaGreatDoor
/- A desk in memory: an engine and claims; the law's measure of it; an argument that is one. -/
namespace Go.Proofs.YtccklgopcjilcaaGreatDoor
open Go.RowKit Go.Deep
set_option linter.unusedVariables false
namespace Dk
open Ex (hid)
open St (StepD old_cell old_free setB)
open Ei (InstD)
open En (EngD)
open Cl (ClD)
open Ch (blk_set blk_cell blk_free new_blk new_at blk_lt)
structure DeskD where
  eng : EngD
  claims : List ClD
structure At (w : World) (B : Nat) (vp vi vc : Value) (d : DeskD) : Prop where
  eng : En.At w B vp vi d.eng
  claims : Cl.At w B vc d.claims
theorem At.kept {w w' : World} {B : Nat} {vp vi vc : Value} {d : DeskD} (h : At w B vp vi vc d) (hs : w.heap.size ≤ w'.heap.size) (hb : ∀ g, B ≤ g → g < w.heap.size → w'.heap[g]? = w.heap[g]?) : At w' B vp vi vc d := ⟨h.eng.kept hs hb, h.claims.kept hs hb⟩
theorem At.below {w w' : World} {B : Nat} {vp vi vc : Value} {d : DeskD} (h : At w B vp vi vc d) (hb : Below w.heap.size w w') : At w' B vp vi vc d := ⟨h.eng.below hb, h.claims.below hb⟩
theorem At.mono {w : World} {B B' : Nat} {vp vi vc : Value} {d : DeskD} (h : At w B vp vi vc d) (hB : B' ≤ B) : At w B' vp vi vc d := ⟨h.eng.mono hB, h.claims.mono hB⟩
theorem At.slices {w : World} {B : Nat} {vp vi vc : Value} {d : DeskD} (h : At w B vp vi vc d) : (∃ a k, vp = .slice a d.eng.procs.length k) ∧ (∃ a k, vi = .slice a d.eng.insts.length k) ∧ ∃ a k, vc = .slice a d.claims.length k := ⟨h.eng.procs.slice, h.eng.insts.slice, h.claims.slice⟩
structure Ok (d : DeskD) : Prop where
  eng : En.Ok d.eng
  nc : d.claims.length ≤ maxLen
structure Small (n : Int) (d : DeskD) : Prop where
  eng : En.Small n d.eng
  claims : (d.claims.length : Int) ≤ n
/-- All rows may be written into, between two blocks. -/
structure Own (w : World) (B C : Nat) (vp vi vc : Value) (d : DeskD) : Prop where
  ex : ∃ M, B ≤ M ∧ M ≤ C ∧ En.Own w B M vp vi d.eng ∧ Cl.Own w M C vc d.claims.length
theorem Own.kept {w w' : World} {B C : Nat} {vp vi vc : Value} {d : DeskD} (h : Own w B C vp vi vc d) (hb : ∀ g, B ≤ g → g < C → g < w.heap.size → w'.heap[g]? = w.heap[g]?) : Own w' B C vp vi vc d := by
  obtain ⟨M, b1, b2, h1, h2⟩ := h.ex
  exact ⟨M, b1, b2, h1.kept (fun g g1 g2 g3 => hb g g1 (by omega) g3), h2.kept (fun g g1 g2 g3 => hb g (by omega) g2 g3)⟩
theorem Own.below {w w' : World} {B C : Nat} {vp vi vc : Value} {d : DeskD} (h : Own w B C vp vi vc d) (hb : Below w.heap.size w w') : Own w' B C vp vi vc d := h.kept (fun g _ _ hg => hb.block g hg)
theorem Own.mono {w : World} {B B' C C' : Nat} {vp vi vc : Value} {d : DeskD} (h : Own w B C vp vi vc d) (hB : B' ≤ B) (hC : C ≤ C') : Own w B' C' vp vi vc d := by
  obtain ⟨M, b1, b2, h1, h2⟩ := h.ex
  exact ⟨M, by omega, by omega, h1.mono hB (Nat.le_refl _), h2.mono (Nat.le_refl _) hC⟩
set_option maxRecDepth 100000 in
set_option maxHeartbeats 2000000 in
theorem sz (B : Nat) (d : DeskD) (vp vi vc : Value) (n : Int) (w : World) (h0 : 0 ≤ n) (hn : n ≤ 1048576) (hk : Ok d) (ha : At w B vp vi vc d) :
    Calls Tryz.prog 35 #[.agg #[vp, vi, .int .i64 d.eng.now, vc], .int .i64 n] w fun z w' => (∃ x : Int, z = .returned (.int .i64 x) ∧ -1 ≤ x ∧ x ≤ n ∧ (0 ≤ x → Small n d)) ∧ Below w.heap.size w w' := by
  obtain ⟨⟨a1, k1, rfl⟩, ⟨a2, k2, rfl⟩, a3, k3, rfl⟩ := ha.slices
  obtain ⟨w0, e0⟩ : ∃ w0, w0 = w.alloc (.cells #[.slice a1 d.eng.procs.length k1, .slice a2 d.eng.insts.length k2, .int .i64 d.eng.now, .slice a3 d.claims.length k3] 50) := ⟨_, rfl⟩
  have hb0 : Below w.heap.size w w0 := by rw [e0]; exact (Below.refl _ w).alloc (Nat.le_refl _) _
  have hc : w0.heap[w.heap.size]? = some (.cells #[.slice a1 d.eng.procs.length k1, .slice a2 d.eng.insts.length k2, .int .i64 d.eng.now, .slice a3 d.claims.length k3] 50) := by rw [e0]; exact new_blk _ _
  have HB := hid hb0
  have HK := hid hk
  have HA := hid (ha.below hb0)
  have HZ := hid (En.sz B d.eng _ _ n w0 h0 hn hk.eng HA.out.eng)
  clear ha hk hb0
  go_enter Tryz.func35, Tryz.ntmps35
  go_wp2_with fail
  rw [← e0]
  clear e0
  refine HZ.out.mono ?_
  rintro z w1 ⟨⟨x1, rfl, p1, p2, p3⟩, hb1⟩
  have HB1 := hid (HB.out.trans (hb1.mono HB.out.size))
  have HA1 := hid (HA.out.below hb1)
  have hc1 := (hb1.block _ (blk_lt hc)).trans hc
  clear hb1 HB HA hc HZ
  by_cases q1 : x1 < 0
  · clear hc1
    go_wp2
    go_ret
    exact ⟨⟨-1, rfl, by omega, by omega, by omega⟩, HB1.out⟩
  have P3 := hid (p3 (by omega))
  have c3 : w1.cell? ⟨w.heap.size, 3, none⟩ = some (.slice a3 d.claims.length k3) := by rw [blk_cell hc1]; rfl
  have l1 := blk_lt hc1
  have HZ2 := hid (Cl.szS d.claims _ x1 B w1 (by omega) (by omega) HK.out.nc HA1.out.claims)
  clear p3 hc1
  go_wp2_with fail
  refine HZ2.out.mono ?_
  rintro z w2 ⟨⟨x2, rfl, s1, s2, s3⟩, rfl⟩
  clear c3 l1
  by_cases q2 : x2 < 0
  · go_wp2
    go_ret
    exact ⟨⟨-1, rfl, by omega, by omega, by omega⟩, HB1.out⟩
  have S3 := hid (s3 (by omega))
  clear s3
  go_wp2
  go_ret
  exact ⟨⟨x2, rfl, by omega, by omega, fun _ => ⟨P3.out, by have := S3.out; omega⟩⟩, HB1.out⟩
theorem cellsR : Tryz.prog.cellsOf 50 = 4 := by kernel_rfl
theorem cellsE : Tryz.prog.cellsOf 47 = 3 := by kernel_rfl
theorem cellsC : Tryz.prog.cellsOf 48 = 1 := by kernel_rfl
set_option maxRecDepth 100000 in
theorem open_all {H : Type} {enc : TypeId × Value → H} {w : World} {base : Nat} {spare : Nat → Bool} {held : Bool} {fuel : Nat} {cs : List Value} {x : DataW H × List MemPlace} (h : DataW.trod enc Tryz.prog w base spare held fuel 50 cs = some x) :
    ∃ (d : DeskD) (vp vi vc : Value), cs = [vp, vi, .int .i64 d.eng.now, vc] ∧ At w 0 vp vi vc d ∧ Ok d := by
  obtain ⟨xs, n, rfl, _, hlen, hxl, hf⟩ := DataW.trod_struct Tryz.underlying50 h
  have h0 := hf 0 _ rfl
  have h1 := hf 1 _ rfl
  rw [cellsR] at hlen
  match cs, hlen with
  | [a, b, c, e], _ =>
    match xs, hxl with
    | [x0, x1], _ =>
      simp [cellsE, cellsC] at h0 h1
      obtain ⟨g, vp, vi, e1, p1, p2⟩ := En.open_all h0
      obtain ⟨cl, i1, i2⟩ := Cl.open_all h1
      cases e1
      exact ⟨⟨g, cl⟩, _, _, _, rfl, ⟨p1, i1⟩, ⟨p2, i2⟩⟩
end Dk
end Go.Proofs.YtccklgopcjilcaaGreatDoor
/- The law's comparison of desks. -/
namespace Go.Proofs.YtccklgopcjilcaaGreatDoor
open Go.RowKit Go.Deep
set_option linter.unusedVariables false
namespace Dk
open Ex (hid)
open St (StepD old_cell old_free setB)
open Ei (InstD)
open En (EngD)
open Cl (ClD)
open Ch (blk_set blk_cell blk_free new_blk new_at blk_lt)
set_option maxRecDepth 100000 in
set_option maxHeartbeats 2000000 in
theorem eq (B1 B2 : Nat) (d : DeskD) (vp vi vc up ui uc : Value) (w : World) (hl : Small 1048576 d) (h1 : At w B1 vp vi vc d) (h2 : At w B2 up ui uc d) :
    Calls Tryz.prog 40 #[.agg #[vp, vi, .int .i64 d.eng.now, vc], .agg #[up, ui, .int .i64 d.eng.now, uc]] w fun z w' => z = .returned (.bool true) ∧ Below w.heap.size w w' := by
  obtain ⟨⟨a1, k1, rfl⟩, ⟨a2, k2, rfl⟩, a3, k3, rfl⟩ := h1.slices
  obtain ⟨⟨b1, l1, rfl⟩, ⟨b2, l2, rfl⟩, b3, l3, rfl⟩ := h2.slices
  obtain ⟨w0, e0⟩ : ∃ w0, w0 = (w.alloc (.cells #[.slice a1 d.eng.procs.length k1, .slice a2 d.eng.insts.length k2, .int .i64 d.eng.now, .slice a3 d.claims.length k3] 30)).alloc (.cells #[.slice b1 d.eng.procs.length l1, .slice b2 d.eng.insts.length l2, .int .i64 d.eng.now, .slice b3 d.claims.length l3] 30) := ⟨_, rfl⟩
  have hB : Below w.heap.size w w0 := by rw [e0]; exact ((Below.refl _ w).alloc (Nat.le_refl _) _).alloc (by simp) _
  have K0 : w0.heap[w.heap.size]? = some (.cells #[.slice a1 d.eng.procs.length k1, .slice a2 d.eng.insts.length k2, .int .i64 d.eng.now, .slice a3 d.claims.length k3] 30) := by rw [e0, Below.heap_alloc _ _ _ (by simp), new_blk]
  have K1 : w0.heap[w.heap.size + 1]? = some (.cells #[.slice b1 d.eng.procs.length l1, .slice b2 d.eng.insts.length l2, .int .i64 d.eng.now, .slice b3 d.claims.length l3] 30) := by rw [e0]; exact new_at (by simp) _
  have H1 := hid (h1.below hB)
  have H2 := hid (h2.below hB)
  have HB := hid hB
  have HL := hid hl
  have HE := hid (En.eq B1 B2 d.eng _ _ _ _ w0 HL.out.eng H1.out.eng H2.out.eng)
  clear h1 h2 hB hl
  go_enter Tryz.func40, Tryz.ntmps40
  go_wp2_with fail
  rw [← e0]
  clear e0
  refine HE.out.mono ?_
  rintro z w1 ⟨rfl, hb1⟩
  have HB1 := hid (HB.out.trans (hb1.mono HB.out.size))
  have K0a := hid ((hb1.block _ (blk_lt K0)).trans K0)
  have K1a := hid ((hb1.block _ (blk_lt K1)).trans K1)
  have c0 : w1.cell? ⟨w.heap.size, 3, none⟩ = some (.slice a3 d.claims.length k3) := by rw [blk_cell K0a.out]; rfl
  have c1 : w1.cell? ⟨w.heap.size + 1, 3, none⟩ = some (.slice b3 d.claims.length l3) := by rw [blk_cell K1a.out]; rfl
  have HE2 := hid (Cl.eqS B1 B2 d.claims _ _ w1 (by have := HL.out.claims; omega) (H1.out.below hb1).claims (H2.out.below hb1).claims)
  have m0 := blk_lt K0a.out
  have m1 := blk_lt K1a.out
  clear hb1 K0 K1 HB H1 H2 HE
  go_wp2_with fail
  refine HE2.out.mono ?_
  rintro z w2 ⟨rfl, hb2⟩
  have HB2 := hid (HB1.out.trans (hb2.mono HB1.out.size))
  clear hb2 K0a K1a c0 c1 m0 m1 HB1
  go_wp2
  go_ret
  exact ⟨rfl, HB2.out⟩
end Dk
end Go.Proofs.YtccklgopcjilcaaGreatDoor
/- Lines of a journal, as plain functions of lists of bytes. No condition. -/
namespace Go.Proofs.YtccklgopcjilcaaGreatDoor
set_option linter.unusedVariables false
namespace Jn
def bad (b : UInt8) : Bool := decide (b.toNat < 32) || decide (126 < b.toNat)
def faultC (s : List UInt8) : Int := if s.length < 1 ∨ 40 < s.length then 2 else if s.any bad then 5 else 0
def stepV (s : Nat) (b : UInt8) : Nat := (s * 251 + b.toNat) % 65521
def sumV (l : List UInt8) : Nat := l.foldl stepV 1
def by8 (n : Nat) : UInt8 := UInt8.ofNat n
def headL (s : List UInt8) : List UInt8 := by8 s.length :: s
def packL (s : List UInt8) : List UInt8 := headL s ++ [by8 (sumV (headL s) / 256), by8 (sumV (headL s) % 256)]
def packR (s : List UInt8) : List UInt8 := if faultC s = 0 then packL s else []
def lenN (d : List UInt8) : Nat := match d with | [] => 0 | n :: _ => n.toNat
def oneL (d : List UInt8) : List UInt8 := (d.drop 1).take (lenN d)
def oneB (d : List UInt8) : Bool := decide (lenN d + 3 ≤ d.length) && (decide (faultC (oneL d) = 0) && decide (packL (oneL d) = d.take (lenN d + 3)))
def oneN (d : List UInt8) : Nat := if oneB d then lenN d + 3 else 0
def oneS (d : List UInt8) : List UInt8 := if oneB d then oneL d else []
def readF : Nat → List UInt8 → List (List UInt8) × Nat
  | 0, _ => ([], 0)
  | f + 1, d => if oneN d = 0 then ([], 0) else (oneS d :: (readF f (d.drop (oneN d))).1, oneN d + (readF f (d.drop (oneN d))).2)
def readL (d : List UInt8) : List (List UInt8) × Nat := readF d.length d
def anyF (d : List UInt8) (k : Nat) : Bool := (List.range d.length).any fun i => decide (k < i) && decide (0 < oneN (d.drop i))
theorem fault_many {s : List UInt8} (h : s.length < 1 ∨ 40 < s.length) : faultC s = 2 := by unfold faultC; rw [if_pos h]
theorem fault_text {s : List UInt8} (h0 : 1 ≤ s.length) (h1 : s.length ≤ 40) {i : Nat} (hi : i < s.length) (hb : bad s[i] = true) : faultC s = 5 := by
  unfold faultC
  rw [if_neg (by omega), if_pos (List.any_eq_true.2 ⟨s[i], List.getElem_mem hi, hb⟩)]
theorem fault_ok {s : List UInt8} (h0 : 1 ≤ s.length) (h1 : s.length ≤ 40) (h : ∀ i (hi : i < s.length), bad s[i] = false) : faultC s = 0 := by
  unfold faultC
  rw [if_neg (by omega), if_neg]
  intro ha
  obtain ⟨b, hm, hb⟩ := List.any_eq_true.1 ha
  obtain ⟨i, hi, rfl⟩ := List.getElem_of_mem hm
  rw [h i hi] at hb
  cases hb
theorem fault_len {s : List UInt8} (h : faultC s = 0) : 1 ≤ s.length ∧ s.length ≤ 40 := by
  unfold faultC at h
  by_cases h1 : s.length < 1 ∨ 40 < s.length
  · rw [if_pos h1] at h; cases h
  · omega
theorem fault_range (s : List UInt8) : 0 ≤ faultC s ∧ faultC s ≤ 5 := by
  unfold faultC
  split
  · omega
  · split <;> omega
theorem step_lt (s : Nat) (b : UInt8) : stepV s b < 65521 := Nat.mod_lt _ (by omega)
theorem fold_lt : ∀ (l : List UInt8) (s : Nat), s < 65521 → l.foldl stepV s < 65521
  | [], s, h => h
  | b :: l, s, h => fold_lt l _ (step_lt s b)
theorem sum_lt (l : List UInt8) : sumV l < 65521 := fold_lt l 1 (by omega)
theorem sum_take {l : List UInt8} {j : Nat} (h : j < l.length) : sumV (l.take (j + 1)) = stepV (sumV (l.take j)) l[j] := by
  unfold sumV
  rw [List.take_succ_eq_append_getElem h, List.foldl_append]
  rfl
theorem head_len (s : List UInt8) : (headL s).length = s.length + 1 := by simp [headL]
theorem pack_len (s : List UInt8) : (packL s).length = s.length + 3 := by simp [packL, head_len]
theorem packR_len (s : List UInt8) : (packR s).length ≤ 43 := by
  unfold packR
  split
  · rename_i h; have := fault_len h; rw [pack_len]; omega
  · simp
theorem of_oneB {d : List UInt8} (h : oneB d = true) : lenN d + 3 ≤ d.length ∧ faultC (oneL d) = 0 ∧ packL (oneL d) = d.take (lenN d + 3) := by
  unfold oneB at h
  rw [Bool.and_eq_true, Bool.and_eq_true] at h
  exact ⟨of_decide_eq_true h.1, of_decide_eq_true h.2.1, of_decide_eq_true h.2.2⟩
theorem oneN_le (d : List UInt8) : oneN d ≤ d.length := by
  unfold oneN
  split
  · rename_i h; exact (of_oneB h).1
  · omega
theorem oneL_len {d : List UInt8} (h : lenN d + 3 ≤ d.length) : (oneL d).length = lenN d := by
  unfold oneL
  rw [List.length_take, List.length_drop]
  omega
theorem oneN_zero {d : List UInt8} (h : oneB d = false) : oneN d = 0 ∧ oneS d = [] := by
  unfold oneN oneS
  rw [h]
  exact ⟨rfl, rfl⟩
theorem oneN_pos {d : List UInt8} (h : oneB d = true) : oneN d = lenN d + 3 ∧ oneS d = oneL d := by
  unfold oneN oneS
  rw [h]
  exact ⟨rfl, rfl⟩
theorem oneN_bound (d : List UInt8) : oneN d ≤ 43 := by
  unfold oneN
  split
  · rename_i h
    have h1 := of_oneB h
    have h2 := fault_len h1.2.1
    rw [oneL_len h1.1] at h2
    omega
  · omega
theorem readF_more : ∀ (f g : Nat) (d : List UInt8), d.length ≤ f → d.length ≤ g → readF f d = readF g d
  | 0, 0, d, _, _ => rfl
  | 0, g + 1, d, h, _ => by
    have : oneN d = 0 := by have := oneN_le d; omega
    simp only [readF]; rw [if_pos this]
  | f + 1, 0, d, _, h => by
    have : oneN d = 0 := by have := oneN_le d; omega
    simp only [readF]; rw [if_pos this]
  | f + 1, g + 1, d, h1, h2 => by
    simp only [readF]
    by_cases h : oneN d = 0
    · rw [if_pos h, if_pos h]
    · have hl : (d.drop (oneN d)).length ≤ d.length - 1 := by rw [List.length_drop]; omega
      have hd := oneN_le d
      rw [if_neg h, if_neg h, readF_more f g (d.drop (oneN d)) (by omega) (by omega)]
theorem read_stop {d : List UInt8} (h : oneN d = 0) : readL d = ([], 0) := by
  unfold readL
  cases hd : d.length with
  | zero => rfl
  | succ k => simp only [readF]; rw [if_pos h]
theorem read_step {d : List UInt8} (h : 0 < oneN d) : readL d = (oneS d :: (readL (d.drop (oneN d))).1, oneN d + (readL (d.drop (oneN d))).2) := by
  have hn := oneN_le d
  unfold readL
  obtain ⟨k, hk⟩ : ∃ k, d.length = k + 1 := ⟨d.length - 1, by omega⟩
  have hl : (d.drop (oneN d)).length ≤ k := by rw [List.length_drop]; omega
  rw [hk]
  simp only [readF]
  rw [if_neg (by omega), readF_more k (d.drop (oneN d)).length (d.drop (oneN d)) hl (Nat.le_refl _)]
theorem read_le : ∀ (f : Nat) (d : List UInt8), (readF f d).2 ≤ d.length
  | 0, d => Nat.zero_le _
  | f + 1, d => by
    simp only [readF]
    by_cases h : oneN d = 0
    · rw [if_pos h]; exact Nat.zero_le _
    · rw [if_neg h]
      have h1 := read_le f (d.drop (oneN d))
      have h2 := oneN_le d
      rw [List.length_drop] at h1
      show oneN d + _ ≤ _
      omega
theorem readL_le (d : List UInt8) : (readL d).2 ≤ d.length := read_le _ d
theorem read_count : ∀ (f : Nat) (d : List UInt8), 4 * (readF f d).1.length ≤ (readF f d).2
  | 0, d => Nat.zero_le _
  | f + 1, d => by
    simp only [readF]
    by_cases h : oneN d = 0
    · rw [if_pos h]; exact Nat.zero_le _
    · rw [if_neg h]
      have h1 := read_count f (d.drop (oneN d))
      have h2 : 4 ≤ oneN d := by
        by_cases hb : oneB d = true
        · have h3 := of_oneB hb
          have h4 := fault_len h3.2.1
          rw [oneL_len h3.1] at h4
          rw [(oneN_pos hb).1]
          omega
        · exact absurd (oneN_zero (by simpa using hb)).1 h
      show 4 * (_ + 1) ≤ oneN d + _
      omega
theorem readL_count (d : List UInt8) : 4 * (readL d).1.length ≤ d.length := Nat.le_trans (read_count _ d) (readL_le d)
end Jn
end Go.Proofs.YtccklgopcjilcaaGreatDoor
