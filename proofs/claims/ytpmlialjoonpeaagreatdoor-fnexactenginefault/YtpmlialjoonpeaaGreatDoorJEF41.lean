/- Laid together: KcA, KcB, ImV. -/
import Derived.Test.YtpmlialjoonpeaaGreatDoorJEF40
import Derived.Test.YtpmlialjoonpeaaGreatDoorJEF35
import Derived.Laws.IdiomCopy
import Derived.Deep.MidRow
import Derived.Deep.Upon
import Derived.Test.YtpmlialjoonpeaaGreatDoorJEF4
/- A chart under way in the program's memory: one block of 55 cells. -/
namespace Go.Proofs.YtpmlialjoonpeaaGreatDoor
open Go.RowKit Go.Deep
set_option linter.unusedVariables false
namespace Kc
open Ex (inR evalCode evalVal vFault hid)
open St (StepD)
open Ch (RunD)
open Pf
def kval (u : Value) (s : CS) (j : Nat) : Value :=
  if j = 0 then u else if j = 1 then .int .i64 s.status else if j = 2 then .int .i64 s.now else if j < 7 then .int .i64 (s.vars.getD (j - 3) 0) else if j < 31 then .int .i64 (s.acts (j - 7)) else .int .i64 (s.dues (j - 31))
def kcs (u : Value) (s : CS) : List Value := (List.range 55).map (kval u s)
theorem kcs_len (u : Value) (s : CS) : (kcs u s).length = 55 := by simp [kcs]
theorem kcs_get {u : Value} {s : CS} {j : Nat} (h : j < 55) : (kcs u s)[j]? = some (kval u s j) := by
  unfold kcs
  rw [List.getElem?_map, List.getElem?_range h]
  rfl
theorem kcs_set {u : Value} {s s' : CS} {j : Nat} {v : Value} (h1 : j < 55) (h : ∀ i, i < 55 → kval u s' i = if j = i then v else kval u s i) : (kcs u s).set j v = kcs u s' := by
  refine List.ext_getElem? fun i => ?_
  rw [List.getElem?_set, kcs_len]
  rcases Nat.lt_or_ge i 55 with hi | hi
  · rw [kcs_get hi, kcs_get hi, h i hi]
    split <;> rfl
  · rw [if_neg (by omega), List.getElem?_eq_none (by rw [kcs_len]; exact hi), List.getElem?_eq_none (by rw [kcs_len]; exact hi)]
structure KAt (wg w : World) (R : Nat) (u : Value) (ss : List StepD) (s : CS) : Prop where
  st : PAt wg ss u
  cap : capOk u
  bel : Below wg.heap.size wg w
  old : wg.heap.size ≤ R
  blk : w.heap[R]? = some (.cells (kcs u s).toArray 107)
  len : s.vars.length = 4
  pad : ∀ i, ss.length ≤ i → s.acts i = 0 ∧ s.dues i = 0
theorem KAt.below {wg w w' : World} {R : Nat} {u : Value} {ss : List StepD} {s : CS} (h : KAt wg w R u ss s) (hb : Below w.heap.size w w') : KAt wg w' R u ss s :=
  ⟨h.st, h.cap, h.bel.trans (hb.mono h.bel.size), h.old, (hb.block R (Array.getElem?_eq_some_iff.1 h.blk).1).trans h.blk, h.len, h.pad⟩
theorem KAt.lt {wg w : World} {R : Nat} {u : Value} {ss : List StepD} {s : CS} (h : KAt wg w R u ss s) : R < w.heap.size := (Array.getElem?_eq_some_iff.1 h.blk).1
theorem KAt.cell {wg w : World} {R : Nat} {u : Value} {ss : List StepD} {s : CS} (h : KAt wg w R u ss s) {j : Nat} (hj : j < 55) : w.cell? ⟨R, j, none⟩ = some (kval u s j) := by
  have := kcs_get (u := u) (s := s) hj
  simp only [World.cell?, h.blk, Option.isSome_none, Bool.false_eq_true, if_false]
  simpa using this
theorem KAt.free {wg w : World} {R : Nat} {u : Value} {ss : List StepD} {s : CS} (h : KAt wg w R u ss s) (j : Nat) : w.frozen? ⟨R, j, none⟩ = false := by simp [World.frozen?, h.blk]
theorem KAt.c0 {wg w : World} {R : Nat} {u : Value} {ss : List StepD} {s : CS} (h : KAt wg w R u ss s) : w.cell? ⟨R, 0, none⟩ = some u := h.cell (by decide)
theorem KAt.c1 {wg w : World} {R : Nat} {u : Value} {ss : List StepD} {s : CS} (h : KAt wg w R u ss s) : w.cell? ⟨R, 1, none⟩ = some (.int .i64 s.status) := h.cell (by decide)
theorem KAt.c2 {wg w : World} {R : Nat} {u : Value} {ss : List StepD} {s : CS} (h : KAt wg w R u ss s) : w.cell? ⟨R, 2, none⟩ = some (.int .i64 s.now) := h.cell (by decide)
theorem KAt.cA {wg w : World} {R : Nat} {u : Value} {ss : List StepD} {s : CS} (h : KAt wg w R u ss s) {i : Nat} (hi : i < 24) : w.cell? ⟨R, 7 + i, none⟩ = some (.int .i64 (s.acts i)) := by
  rw [h.cell (by omega)]
  unfold kval
  rw [if_neg (by omega), if_neg (by omega), if_neg (by omega), if_neg (by omega), if_pos (by omega), Nat.add_sub_cancel_left]
theorem KAt.cD {wg w : World} {R : Nat} {u : Value} {ss : List StepD} {s : CS} (h : KAt wg w R u ss s) {i : Nat} (hi : i < 24) : w.cell? ⟨R, 31 + i, none⟩ = some (.int .i64 (s.dues i)) := by
  rw [h.cell (by omega)]
  unfold kval
  rw [if_neg (by omega), if_neg (by omega), if_neg (by omega), if_neg (by omega), if_neg (by omega), Nat.add_sub_cancel_left]
theorem KAt.cV {wg w : World} {R : Nat} {u : Value} {ss : List StepD} {s : CS} (h : KAt wg w R u ss s) {i : Nat} (hi : i < 4) : w.cell? ⟨R, 3 + i, none⟩ = some (.int .i64 (s.vars.getD i 0)) := by
  rw [h.cell (by omega)]
  unfold kval
  rw [if_neg (by omega), if_neg (by omega), if_neg (by omega), if_pos (by omega), Nat.add_sub_cancel_left]
theorem KAt.steps {wg w : World} {R : Nat} {u : Value} {ss : List StepD} {s : CS} (h : KAt wg w R u ss s) : PAt w ss u := h.st.below h.bel
set_option maxRecDepth 100000 in
set_option maxHeartbeats 1000000 in
theorem isOn (wg w : World) (R : Nat) (u : Value) (ss : List StepD) (s : CS) (k : Nat) (hk : k < 24) (h : KAt wg w R u ss s) :
    Calls Tryz.prog 103 #[.pointer (some ⟨R, 0, none⟩), .int .i64 (k : Int)] w fun e w' => e = .returned (.bool (s.acts k == 1)) ∧ w' = w := by
  have c := h.cA hk
  have q1 : (0 : Int) ≤ (k : Int) := by omega
  have q2 : (k : Int) < 24 := by omega
  clear h
  go_enter Tryz.func103, Tryz.ntmps103
  go_wp2
  go_ret
  exact ⟨rfl, rfl⟩
end Kc
end Go.Proofs.YtpmlialjoonpeaaGreatDoor
/- A chart under way in the program's memory: what is written there. -/
namespace Go.Proofs.YtpmlialjoonpeaaGreatDoor
open Go.RowKit Go.Deep
set_option linter.unusedVariables false
set_option linter.unusedSimpArgs false
namespace Kc
open Ex (inR evalCode evalVal vFault hid)
open St (StepD)
open Ch (RunD)
open Pf
def setL (cs : List Value) (o : Nat) : List Value → List Value
  | [] => cs
  | v :: r => setL (cs.set o v) (o + 1) r
theorem setL_len : ∀ (vs cs : List Value) (o : Nat), (setL cs o vs).length = cs.length
  | [], _, _ => rfl
  | v :: r, cs, o => by rw [setL, setL_len r]; simp
theorem setL_get : ∀ (vs cs : List Value) (o j : Nat), o + vs.length ≤ cs.length → (setL cs o vs)[j]? = if o ≤ j ∧ j < o + vs.length then vs[j - o]? else cs[j]?
  | [], cs, o, j, _ => by rw [setL, if_neg (by simp)]
  | v :: r, cs, o, j, h => by
    simp only [List.length_cons] at h
    rw [setL, setL_get r _ _ _ (by simp; omega), List.length_cons]
    by_cases h1 : j = o
    · subst h1
      rw [if_neg (by omega), if_pos (by omega), List.getElem?_set_self (by omega), Nat.sub_self]
      rfl
    · by_cases h2 : o + 1 ≤ j ∧ j < o + 1 + r.length
      · rw [if_pos h2, if_pos (by omega), show j - o = (j - (o + 1)) + 1 by omega]
        rfl
      · rw [if_neg h2, if_neg (by omega), List.getElem?_set_ne (by omega)]
theorem heap_setCells : ∀ (vs : List Value) (w : World) (b o : Nat) (cs : List Value) (t : TypeId), w.heap[b]? = some (.cells cs.toArray t) → (w.setCells b o vs).heap[b]? = some (.cells (setL cs o vs).toArray t)
  | [], w, b, o, cs, t, h => h
  | v :: r, w, b, o, cs, t, h => by
    rw [World.setCells, setL]
    refine heap_setCells r _ b (o + 1) (cs.set o v) t ?_
    have := Ch.blk_set (i := o) h v
    simpa only [List.setIfInBounds_toArray] using this
theorem heap_other : ∀ (vs : List Value) (w : World) (b o : Nat) {i : Nat}, i ≠ b → (w.setCells b o vs).heap[i]? = w.heap[i]?
  | [], w, b, o, i, _ => rfl
  | v :: r, w, b, o, i, h => by
    rw [World.setCells, heap_other r _ b (o + 1) h]
    exact Below.heap_setCell _ _ _ _ h
theorem size_setCells : ∀ (vs : List Value) (w : World) (b o : Nat), (w.setCells b o vs).heap.size = w.heap.size
  | [], w, b, o => rfl
  | v :: r, w, b, o => by rw [World.setCells, size_setCells r]; simp [World.setCell]
theorem below_setCells {B : Nat} {x : World} : ∀ (vs : List Value) (w : World) (b o : Nat), B ≤ b → Below B x w → Below B x (w.setCells b o vs)
  | [], w, b, o, _, h => h
  | v :: r, w, b, o, hb, h => by
    rw [World.setCells]
    exact below_setCells r _ b (o + 1) hb (h.setCell (p := ⟨b, o, none⟩) hb v)
/-- Only the chart's own block is written, and what is new. -/
structure Rides (R : Nat) (w w' : World) : Prop where
  os : w'.os = w.os
  tape : w'.tape = w.tape
  output : w'.output = w.output
  size : w.heap.size ≤ w'.heap.size
  block : ∀ b, b < w.heap.size → b ≠ R → w'.heap[b]? = w.heap[b]?
theorem Rides.of_below {R : Nat} {w w' : World} (h : Below w.heap.size w w') : Rides R w w' := ⟨h.os, h.tape, h.output, h.size, fun b hb _ => h.block b hb⟩
theorem Rides.trans {R : Nat} {a b c : World} (h : Rides R a b) (h' : Rides R b c) : Rides R a c :=
  ⟨h'.os.trans h.os, h'.tape.trans h.tape, h'.output.trans h.output, Nat.le_trans h.size h'.size, fun k hk hn => (h'.block k (Nat.lt_of_lt_of_le hk h.size) hn).trans (h.block k hk hn)⟩
theorem Rides.refl (R : Nat) (w : World) : Rides R w w := ⟨rfl, rfl, rfl, Nat.le_refl _, fun _ _ _ => rfl⟩
theorem Rides.set (R : Nat) (w : World) (o : Nat) (v : Value) : Rides R w (w.setCell ⟨R, o, none⟩ v) :=
  ⟨rfl, rfl, rfl, by simp [World.setCell], fun b hb hn => Below.heap_setCell _ _ _ _ hn⟩
theorem Rides.sets (R : Nat) : ∀ (vs : List Value) (w : World) (o : Nat), Rides R w (w.setCells R o vs)
  | [], w, o => Rides.refl R w
  | v :: r, w, o => (Rides.set R w o v).trans (Rides.sets R r _ (o + 1))
/-- From an old world on, where the block is newer, all is kept. -/
theorem Rides.below {R : Nat} {wg w w' : World} (h : Rides R w w') (hb : Below wg.heap.size wg w) (ho : wg.heap.size ≤ R) : Below wg.heap.size wg w' :=
  ⟨h.os.trans hb.os, h.tape.trans hb.tape, h.output.trans hb.output, Nat.le_trans hb.size h.size, fun b hb' => (h.block b (Nat.lt_of_lt_of_le hb' hb.size) (by omega)).trans (hb.block b hb')⟩
theorem kcs_setL {u : Value} {s s' : CS} {o : Nat} {vs : List Value} (h1 : o + vs.length ≤ 55) (h : ∀ j, j < 55 → some (kval u s' j) = if o ≤ j ∧ j < o + vs.length then vs[j - o]? else some (kval u s j)) : setL (kcs u s) o vs = kcs u s' := by
  refine List.ext_getElem? fun j => ?_
  rw [setL_get _ _ _ _ (by rw [kcs_len]; exact h1)]
  rcases Nat.lt_or_ge j 55 with hj | hj
  · rw [kcs_get hj, kcs_get hj, h j hj]
  · rw [if_neg (by omega), List.getElem?_eq_none (by rw [kcs_len]; exact hj), List.getElem?_eq_none (by rw [kcs_len]; exact hj)]
theorem KAt.puts {wg w : World} {R : Nat} {u : Value} {ss : List StepD} {s s' : CS} (h : KAt wg w R u ss s) {o : Nat} {vs : List Value} (h1 : o + vs.length ≤ 55) (hk : ∀ j, j < 55 → some (kval u s' j) = if o ≤ j ∧ j < o + vs.length then vs[j - o]? else some (kval u s j)) (hl : s'.vars.length = 4) (hpad : ∀ i, ss.length ≤ i → s'.acts i = 0 ∧ s'.dues i = 0) :
    KAt wg (w.setCells R o vs) R u ss s' :=
  ⟨h.st, h.cap, below_setCells _ _ _ _ h.old h.bel, h.old, by rw [heap_setCells _ _ _ _ _ _ h.blk, kcs_setL h1 hk], hl, hpad⟩
theorem KAt.put {wg w : World} {R : Nat} {u : Value} {ss : List StepD} {s s' : CS} (h : KAt wg w R u ss s) {o : Nat} {v : Value} (h1 : o < 55) (hk : ∀ j, j < 55 → kval u s' j = if o = j then v else kval u s j) (hl : s'.vars.length = 4) (hpad : ∀ i, ss.length ≤ i → s'.acts i = 0 ∧ s'.dues i = 0) :
    KAt wg (w.setCell ⟨R, o, none⟩ v) R u ss s' :=
  h.puts (o := o) (vs := [v]) (by simp; omega) (fun j hj => by
    rw [hk j hj]
    by_cases e : o = j
    · subst e; simp
    · rw [if_neg e, if_neg (by simp; omega)]) hl hpad
theorem kval_act {u : Value} {s : CS} {k : Nat} (hk : k < 24) (v : Int) {j : Nat} (hj : j < 55) : kval u (act s k v) j = if 7 + k = j then .int .i64 v else kval u s j := by
  unfold kval act upd
  by_cases e : 7 + k = j
  · subst e
    rw [if_pos rfl, if_neg (by omega), if_neg (by omega), if_neg (by omega), if_neg (by omega), if_pos (by omega)]
    simp
  · rw [if_neg e]
    by_cases h1 : j < 31
    · by_cases h2 : j < 7
      · simp [h2]
      · have : ¬ j - 7 = k := by omega
        simp [this]
    · simp [h1]
theorem kval_due {u : Value} {s : CS} {k : Nat} (hk : k < 24) (v : Int) {j : Nat} (hj : j < 55) : kval u (due s k v) j = if 31 + k = j then .int .i64 v else kval u s j := by
  unfold kval due upd
  by_cases e : 31 + k = j
  · subst e
    rw [if_pos rfl, if_neg (by omega), if_neg (by omega), if_neg (by omega), if_neg (by omega), if_neg (by omega)]
    simp
  · rw [if_neg e]
    by_cases h1 : j < 31
    · simp [h1]
    · have : ¬ j - 31 = k := by omega
      simp [this]
theorem KAt.act {wg w : World} {R : Nat} {u : Value} {ss : List StepD} {s : CS} (h : KAt wg w R u ss s) {k : Nat} (hk : k < ss.length) (hl : ss.length ≤ 24) (v : Int) : KAt wg (w.setCell ⟨R, 7 + k, none⟩ (.int .i64 v)) R u ss (act s k v) :=
  h.put (by omega) (fun j hj => kval_act (by omega) v hj) h.len (fun i hi => ⟨by show upd s.acts k v i = 0; unfold upd; rw [if_neg (by omega)]; exact (h.pad i hi).1, (h.pad i hi).2⟩)
theorem KAt.due {wg w : World} {R : Nat} {u : Value} {ss : List StepD} {s : CS} (h : KAt wg w R u ss s) {k : Nat} (hk : k < ss.length) (hl : ss.length ≤ 24) (v : Int) : KAt wg (w.setCell ⟨R, 31 + k, none⟩ (.int .i64 v)) R u ss (due s k v) :=
  h.put (by omega) (fun j hj => kval_due (by omega) v hj) h.len (fun i hi => ⟨(h.pad i hi).1, by show upd s.dues k v i = 0; unfold upd; rw [if_neg (by omega)]; exact (h.pad i hi).2⟩)
end Kc
end Go.Proofs.YtpmlialjoonpeaaGreatDoor
/- The program's VarsFault. -/
namespace Go.Proofs.YtpmlialjoonpeaaGreatDoor
open Go.RowKit
set_option linter.unusedVariables false
namespace Ex
open Nd (NodeD)
set_option maxRecDepth 100000 in
set_option maxHeartbeats 400000 in
theorem implBounded (x : Int) (w : World) : Calls Tryz.prog 133 #[.int .i64 x] w fun e w' => e = .returned (.bool (inR x (-1000000) 1000000)) ∧ w' = w := by
  by_cases h1 : -1000000 ≤ x
  · by_cases h2 : x ≤ 1000000
    · have HV : Hid (inR x (-1000000) 1000000 = true) := hid (inR_iff.2 ⟨h1, h2⟩)
      go_enter Tryz.func133, Tryz.ntmps133
      go_wp2
      go_ret
      exact ⟨by rw [HV.out]; rfl, rfl⟩
    · have HV : Hid (inR x (-1000000) 1000000 = false) := hid (inR_not.2 (by omega))
      go_enter Tryz.func133, Tryz.ntmps133
      go_wp2
      go_ret
      exact ⟨by rw [HV.out]; rfl, rfl⟩
  · have HV : Hid (inR x (-1000000) 1000000 = false) := hid (inR_not.2 (by omega))
    go_enter Tryz.func133, Tryz.ntmps133
    go_wp2
    go_ret
    exact ⟨by rw [HV.out]; rfl, rfl⟩
set_option maxRecDepth 100000 in
set_option maxHeartbeats 1000000 in
theorem implVars (B : Nat) (xs : List Int) (v : Value) (w : World) (hl : xs.length ≤ 1048576) (ha : Nu.At w B v xs) :
    Calls Tryz.prog 98 #[v] w fun e w' => e = .returned (.int .i64 (vFault xs)) ∧ w' = w := by
  obtain ⟨a, cap, rfl⟩ := ha.slice
  have HA := hid ha
  clear ha
  by_cases h4 : xs.length = 4
  · have b1 : ((xs.length : Int) != 4) = false := by simp [h4]
    have H4 := hid h4
    have hlt4 : xs.length ≤ 4 := by omega
    clear h4
    go_enter Tryz.func98, Tryz.ntmps98
    go_wp2
    go_loop [4, 10] (fun _ i => ∃ k : Nat, k ≤ xs.length ∧ i = .int .i64 k ∧ Hid (∀ j (h : j < xs.length), j < k → inR xs[j] (-1000000) 1000000 = true)) (fun _ i => xs.length - (intOf i).toNat)
    case atStart => exact ⟨0, Nat.zero_le _, rfl, fun j _ h => by omega⟩
    case round =>
      obtain ⟨k, hk, rfl, HJ⟩ := hrel
      by_cases hlt : k < xs.length
      · obtain ⟨g, o, rfl, hg, c0⟩ := HA.out.at hlt
        have q1 : (k : Int) < (xs.length : Int) := by omega
        have HI := hid (fun w' => implBounded xs[k] w')
        cases hin : inR xs[k] (-1000000) 1000000
        · have HV := hid (v_bad H4.out hlt hin)
          rw [hin] at HI
          clear hin
          go_wp2_with (go_at_call 133; refine (HI.out _).mono ?_; rintro e w' ⟨rfl, rfl⟩)
          go_ret
          exact ⟨by rw [HV.out]; rfl, rfl⟩
        · rw [hin] at HI
          have HJ2 : Hid (∀ j (h : j < xs.length), j < k + 1 → inR xs[j] (-1000000) 1000000 = true) := hid (fun j h hj => by
            by_cases e : j = k
            · subst e; exact hin
            · exact HJ.out j h (by omega))
          clear hin
          go_wp2_with (go_at_call 133; refine (HI.out _).mono ?_; rintro e w' ⟨rfl, rfl⟩)
          exact ⟨⟨k + 1, by omega, by simp, HJ2⟩, by simp [intOf]; omega⟩
      · have HV := hid (v_ok H4.out (fun j h => HJ.out j h (by omega)))
        go_wp2
        go_ret
        exact ⟨by rw [HV.out]; rfl, rfl⟩
  · have b1 : ((xs.length : Int) != 4) = true := by simp; omega
    have HV := hid (v_len h4)
    clear h4
    go_enter Tryz.func98, Tryz.ntmps98
    go_wp2
    go_ret
    exact ⟨by rw [HV.out]; rfl, rfl⟩
theorem implVarsB (B : Nat) (xs : List Int) (v : Value) (w : World) (hl : xs.length ≤ 1048576) (ha : Nu.At w B v xs) :
    Calls Tryz.prog 98 #[v] w fun e w' => e = .returned (.int .i64 (vFault xs)) ∧ Below w.heap.size w w' :=
  (implVars B xs v w hl ha).mono (fun e w' ⟨h1, h2⟩ => ⟨h1, by rw [h2]; exact Below.refl _ _⟩)
end Ex
end Go.Proofs.YtpmlialjoonpeaaGreatDoor
