/- Laid together: KcB, ImV, KfI, KfG. -/
import Derived.Test.YtkelmhkakdeghaaGreatDoorJOF30
import Derived.Test.YtkelmhkakdeghaaGreatDoorJOF3
import Derived.ChangeKeysEq
import Derived.Deep.RegionHeld3
/- A chart under way in the program's memory: what is written there. -/
namespace Go.Proofs.YtkelmhkakdeghaaGreatDoor
open Go.RowKit Go.Deep
set_option linter.unusedVariables false
set_option linter.unusedSimpArgs false
namespace Kc
open Ex (inR evalCode evalVal vFault hid)
open St (StepD)
open Ch (RunD)
open Pf
def setL (cs : List Value) (o : Nat) : List Value → List Value
  | [] => cs
  | v :: r => setL (cs.set o v) (o + 1) r
theorem setL_len : ∀ (vs cs : List Value) (o : Nat), (setL cs o vs).length = cs.length
  | [], _, _ => rfl
  | v :: r, cs, o => by rw [setL, setL_len r]; simp
theorem setL_get : ∀ (vs cs : List Value) (o j : Nat), o + vs.length ≤ cs.length → (setL cs o vs)[j]? = if o ≤ j ∧ j < o + vs.length then vs[j - o]? else cs[j]?
  | [], cs, o, j, _ => by rw [setL, if_neg (by simp)]
  | v :: r, cs, o, j, h => by
    simp only [List.length_cons] at h
    rw [setL, setL_get r _ _ _ (by simp; omega), List.length_cons]
    by_cases h1 : j = o
    · subst h1
      rw [if_neg (by omega), if_pos (by omega), List.getElem?_set_self (by omega), Nat.sub_self]
      rfl
    · by_cases h2 : o + 1 ≤ j ∧ j < o + 1 + r.length
      · rw [if_pos h2, if_pos (by omega), show j - o = (j - (o + 1)) + 1 by omega]
        rfl
      · rw [if_neg h2, if_neg (by omega), List.getElem?_set_ne (by omega)]
theorem heap_setCells : ∀ (vs : List Value) (w : World) (b o : Nat) (cs : List Value) (t : TypeId), w.heap[b]? = some (.cells cs.toArray t) → (w.setCells b o vs).heap[b]? = some (.cells (setL cs o vs).toArray t)
  | [], w, b, o, cs, t, h => h
  | v :: r, w, b, o, cs, t, h => by
    rw [World.setCells, setL]
    refine heap_setCells r _ b (o + 1) (cs.set o v) t ?_
    have := Ch.blk_set (i := o) h v
    simpa only [List.setIfInBounds_toArray] using this
theorem heap_other : ∀ (vs : List Value) (w : World) (b o : Nat) {i : Nat}, i ≠ b → (w.setCells b o vs).heap[i]? = w.heap[i]?
  | [], w, b, o, i, _ => rfl
  | v :: r, w, b, o, i, h => by
    rw [World.setCells, heap_other r _ b (o + 1) h]
    exact Below.heap_setCell _ _ _ _ h
theorem size_setCells : ∀ (vs : List Value) (w : World) (b o : Nat), (w.setCells b o vs).heap.size = w.heap.size
  | [], w, b, o => rfl
  | v :: r, w, b, o => by rw [World.setCells, size_setCells r]; simp [World.setCell]
theorem below_setCells {B : Nat} {x : World} : ∀ (vs : List Value) (w : World) (b o : Nat), B ≤ b → Below B x w → Below B x (w.setCells b o vs)
  | [], w, b, o, _, h => h
  | v :: r, w, b, o, hb, h => by
    rw [World.setCells]
    exact below_setCells r _ b (o + 1) hb (h.setCell (p := ⟨b, o, none⟩) hb v)
/-- Only the chart's own block is written, and what is new. -/
structure Rides (R : Nat) (w w' : World) : Prop where
  os : w'.os = w.os
  tape : w'.tape = w.tape
  output : w'.output = w.output
  size : w.heap.size ≤ w'.heap.size
  block : ∀ b, b < w.heap.size → b ≠ R → w'.heap[b]? = w.heap[b]?
theorem Rides.of_below {R : Nat} {w w' : World} (h : Below w.heap.size w w') : Rides R w w' := ⟨h.os, h.tape, h.output, h.size, fun b hb _ => h.block b hb⟩
theorem Rides.trans {R : Nat} {a b c : World} (h : Rides R a b) (h' : Rides R b c) : Rides R a c :=
  ⟨h'.os.trans h.os, h'.tape.trans h.tape, h'.output.trans h.output, Nat.le_trans h.size h'.size, fun k hk hn => (h'.block k (Nat.lt_of_lt_of_le hk h.size) hn).trans (h.block k hk hn)⟩
theorem Rides.refl (R : Nat) (w : World) : Rides R w w := ⟨rfl, rfl, rfl, Nat.le_refl _, fun _ _ _ => rfl⟩
theorem Rides.set (R : Nat) (w : World) (o : Nat) (v : Value) : Rides R w (w.setCell ⟨R, o, none⟩ v) :=
  ⟨rfl, rfl, rfl, by simp [World.setCell], fun b hb hn => Below.heap_setCell _ _ _ _ hn⟩
theorem Rides.sets (R : Nat) : ∀ (vs : List Value) (w : World) (o : Nat), Rides R w (w.setCells R o vs)
  | [], w, o => Rides.refl R w
  | v :: r, w, o => (Rides.set R w o v).trans (Rides.sets R r _ (o + 1))
/-- From an old world on, where the block is newer, all is kept. -/
theorem Rides.below {R : Nat} {wg w w' : World} (h : Rides R w w') (hb : Below wg.heap.size wg w) (ho : wg.heap.size ≤ R) : Below wg.heap.size wg w' :=
  ⟨h.os.trans hb.os, h.tape.trans hb.tape, h.output.trans hb.output, Nat.le_trans hb.size h.size, fun b hb' => (h.block b (Nat.lt_of_lt_of_le hb' hb.size) (by omega)).trans (hb.block b hb')⟩
theorem kcs_setL {u : Value} {s s' : CS} {o : Nat} {vs : List Value} (h1 : o + vs.length ≤ 55) (h : ∀ j, j < 55 → some (kval u s' j) = if o ≤ j ∧ j < o + vs.length then vs[j - o]? else some (kval u s j)) : setL (kcs u s) o vs = kcs u s' := by
  refine List.ext_getElem? fun j => ?_
  rw [setL_get _ _ _ _ (by rw [kcs_len]; exact h1)]
  rcases Nat.lt_or_ge j 55 with hj | hj
  · rw [kcs_get hj, kcs_get hj, h j hj]
  · rw [if_neg (by omega), List.getElem?_eq_none (by rw [kcs_len]; exact hj), List.getElem?_eq_none (by rw [kcs_len]; exact hj)]
theorem KAt.puts {wg w : World} {R : Nat} {u : Value} {ss : List StepD} {s s' : CS} (h : KAt wg w R u ss s) {o : Nat} {vs : List Value} (h1 : o + vs.length ≤ 55) (hk : ∀ j, j < 55 → some (kval u s' j) = if o ≤ j ∧ j < o + vs.length then vs[j - o]? else some (kval u s j)) (hl : s'.vars.length = 4) (hpad : ∀ i, ss.length ≤ i → s'.acts i = 0 ∧ s'.dues i = 0) :
    KAt wg (w.setCells R o vs) R u ss s' :=
  ⟨h.st, h.cap, below_setCells _ _ _ _ h.old h.bel, h.old, by rw [heap_setCells _ _ _ _ _ _ h.blk, kcs_setL h1 hk], hl, hpad⟩
theorem KAt.put {wg w : World} {R : Nat} {u : Value} {ss : List StepD} {s s' : CS} (h : KAt wg w R u ss s) {o : Nat} {v : Value} (h1 : o < 55) (hk : ∀ j, j < 55 → kval u s' j = if o = j then v else kval u s j) (hl : s'.vars.length = 4) (hpad : ∀ i, ss.length ≤ i → s'.acts i = 0 ∧ s'.dues i = 0) :
    KAt wg (w.setCell ⟨R, o, none⟩ v) R u ss s' :=
  h.puts (o := o) (vs := [v]) (by simp; omega) (fun j hj => by
    rw [hk j hj]
    by_cases e : o = j
    · subst e; simp
    · rw [if_neg e, if_neg (by simp; omega)]) hl hpad
theorem kval_act {u : Value} {s : CS} {k : Nat} (hk : k < 24) (v : Int) {j : Nat} (hj : j < 55) : kval u (act s k v) j = if 7 + k = j then .int .i64 v else kval u s j := by
  unfold kval act upd
  by_cases e : 7 + k = j
  · subst e
    rw [if_pos rfl, if_neg (by omega), if_neg (by omega), if_neg (by omega), if_neg (by omega), if_pos (by omega)]
    simp
  · rw [if_neg e]
    by_cases h1 : j < 31
    · by_cases h2 : j < 7
      · simp [h2]
      · have : ¬ j - 7 = k := by omega
        simp [this]
    · simp [h1]
theorem kval_due {u : Value} {s : CS} {k : Nat} (hk : k < 24) (v : Int) {j : Nat} (hj : j < 55) : kval u (due s k v) j = if 31 + k = j then .int .i64 v else kval u s j := by
  unfold kval due upd
  by_cases e : 31 + k = j
  · subst e
    rw [if_pos rfl, if_neg (by omega), if_neg (by omega), if_neg (by omega), if_neg (by omega), if_neg (by omega)]
    simp
  · rw [if_neg e]
    by_cases h1 : j < 31
    · simp [h1]
    · have : ¬ j - 31 = k := by omega
      simp [this]
theorem KAt.act {wg w : World} {R : Nat} {u : Value} {ss : List StepD} {s : CS} (h : KAt wg w R u ss s) {k : Nat} (hk : k < ss.length) (hl : ss.length ≤ 24) (v : Int) : KAt wg (w.setCell ⟨R, 7 + k, none⟩ (.int .i64 v)) R u ss (act s k v) :=
  h.put (by omega) (fun j hj => kval_act (by omega) v hj) h.len (fun i hi => ⟨by show upd s.acts k v i = 0; unfold upd; rw [if_neg (by omega)]; exact (h.pad i hi).1, (h.pad i hi).2⟩)
theorem KAt.due {wg w : World} {R : Nat} {u : Value} {ss : List StepD} {s : CS} (h : KAt wg w R u ss s) {k : Nat} (hk : k < ss.length) (hl : ss.length ≤ 24) (v : Int) : KAt wg (w.setCell ⟨R, 31 + k, none⟩ (.int .i64 v)) R u ss (due s k v) :=
  h.put (by omega) (fun j hj => kval_due (by omega) v hj) h.len (fun i hi => ⟨(h.pad i hi).1, by show upd s.dues k v i = 0; unfold upd; rw [if_neg (by omega)]; exact (h.pad i hi).2⟩)
end Kc
end Go.Proofs.YtkelmhkakdeghaaGreatDoor
/- The program's VarsFault. -/
namespace Go.Proofs.YtkelmhkakdeghaaGreatDoor
open Go.RowKit
set_option linter.unusedVariables false
namespace Ex
open Nd (NodeD)
set_option maxRecDepth 100000 in
set_option maxHeartbeats 400000 in
theorem implBounded (x : Int) (w : World) : Calls Tryz.prog 204 #[.int .i64 x] w fun e w' => e = .returned (.bool (inR x (-1000000) 1000000)) ∧ w' = w := by
  by_cases h1 : -1000000 ≤ x
  · by_cases h2 : x ≤ 1000000
    · have HV : Hid (inR x (-1000000) 1000000 = true) := hid (inR_iff.2 ⟨h1, h2⟩)
      go_enter Tryz.func204, Tryz.ntmps204
      go_wp2
      go_ret
      exact ⟨by rw [HV.out]; rfl, rfl⟩
    · have HV : Hid (inR x (-1000000) 1000000 = false) := hid (inR_not.2 (by omega))
      go_enter Tryz.func204, Tryz.ntmps204
      go_wp2
      go_ret
      exact ⟨by rw [HV.out]; rfl, rfl⟩
  · have HV : Hid (inR x (-1000000) 1000000 = false) := hid (inR_not.2 (by omega))
    go_enter Tryz.func204, Tryz.ntmps204
    go_wp2
    go_ret
    exact ⟨by rw [HV.out]; rfl, rfl⟩
set_option maxRecDepth 100000 in
set_option maxHeartbeats 1000000 in
theorem implVars (B : Nat) (xs : List Int) (v : Value) (w : World) (hl : xs.length ≤ 1048576) (ha : Nu.At w B v xs) :
    Calls Tryz.prog 178 #[v] w fun e w' => e = .returned (.int .i64 (vFault xs)) ∧ w' = w := by
  obtain ⟨a, cap, rfl⟩ := ha.slice
  have HA := hid ha
  clear ha
  by_cases h4 : xs.length = 4
  · have b1 : ((xs.length : Int) != 4) = false := by simp [h4]
    have H4 := hid h4
    have hlt4 : xs.length ≤ 4 := by omega
    clear h4
    go_enter Tryz.func178, Tryz.ntmps178
    go_wp2
    go_loop [4, 10] (fun _ i => ∃ k : Nat, k ≤ xs.length ∧ i = .int .i64 k ∧ Hid (∀ j (h : j < xs.length), j < k → inR xs[j] (-1000000) 1000000 = true)) (fun _ i => xs.length - (intOf i).toNat)
    case atStart => exact ⟨0, Nat.zero_le _, rfl, fun j _ h => by omega⟩
    case round =>
      obtain ⟨k, hk, rfl, HJ⟩ := hrel
      by_cases hlt : k < xs.length
      · obtain ⟨g, o, rfl, hg, c0⟩ := HA.out.at hlt
        have q1 : (k : Int) < (xs.length : Int) := by omega
        have HI := hid (fun w' => implBounded xs[k] w')
        cases hin : inR xs[k] (-1000000) 1000000
        · have HV := hid (v_bad H4.out hlt hin)
          rw [hin] at HI
          clear hin
          go_wp2_with (go_at_call 204; refine (HI.out _).mono ?_; rintro e w' ⟨rfl, rfl⟩)
          go_ret
          exact ⟨by rw [HV.out]; rfl, rfl⟩
        · rw [hin] at HI
          have HJ2 : Hid (∀ j (h : j < xs.length), j < k + 1 → inR xs[j] (-1000000) 1000000 = true) := hid (fun j h hj => by
            by_cases e : j = k
            · subst e; exact hin
            · exact HJ.out j h (by omega))
          clear hin
          go_wp2_with (go_at_call 204; refine (HI.out _).mono ?_; rintro e w' ⟨rfl, rfl⟩)
          exact ⟨⟨k + 1, by omega, by simp, HJ2⟩, by simp [intOf]; omega⟩
      · have HV := hid (v_ok H4.out (fun j h => HJ.out j h (by omega)))
        go_wp2
        go_ret
        exact ⟨by rw [HV.out]; rfl, rfl⟩
  · have b1 : ((xs.length : Int) != 4) = true := by simp; omega
    have HV := hid (v_len h4)
    clear h4
    go_enter Tryz.func178, Tryz.ntmps178
    go_wp2
    go_ret
    exact ⟨by rw [HV.out]; rfl, rfl⟩
theorem implVarsB (B : Nat) (xs : List Int) (v : Value) (w : World) (hl : xs.length ≤ 1048576) (ha : Nu.At w B v xs) :
    Calls Tryz.prog 178 #[v] w fun e w' => e = .returned (.int .i64 (vFault xs)) ∧ Below w.heap.size w w' :=
  (implVars B xs v w hl ha).mono (fun e w' ⟨h1, h2⟩ => ⟨h1, by rw [h2]; exact Below.refl _ _⟩)
end Ex
end Go.Proofs.YtkelmhkakdeghaaGreatDoor
/- The numbers of a chart, asked by the program. -/
namespace Go.Proofs.YtkelmhkakdeghaaGreatDoor
open Go.RowKit Go.Deep
set_option linter.unusedVariables false
namespace Kc
open Ex (inR evalCode evalVal vFault hid)
open St (StepD)
open Ch (RunD)
open Pf
set_option maxRecDepth 100000 in
set_option maxHeartbeats 1000000 in
theorem isTime (x : Int) (w : World) : Calls Tryz.prog 94 #[.int .i64 x] w fun e w' => e = .returned (.bool (inR x 0 1000000)) ∧ w' = w := by
  by_cases h1 : (0 : Int) ≤ x
  · by_cases h2 : x ≤ 1000000
    · have HV : Hid (inR x 0 1000000 = true) := hid (Ex.inR_iff.2 ⟨h1, h2⟩)
      go_enter Tryz.func94, Tryz.ntmps94
      go_wp2
      go_ret
      exact ⟨by rw [HV.out]; rfl, rfl⟩
    · have HV : Hid (inR x 0 1000000 = false) := hid (Ex.inR_not.2 (by omega))
      go_enter Tryz.func94, Tryz.ntmps94
      go_wp2
      go_ret
      exact ⟨by rw [HV.out]; rfl, rfl⟩
  · have HV : Hid (inR x 0 1000000 = false) := hid (Ex.inR_not.2 (by omega))
    go_enter Tryz.func94, Tryz.ntmps94
    go_wp2
    go_ret
    exact ⟨by rw [HV.out]; rfl, rfl⟩
set_option maxRecDepth 100000 in
set_option maxHeartbeats 2000000 in
theorem stateFault (B : Nat) (st now : Int) (vars : List Int) (v : Value) (w : World) (hl : vars.length ≤ 1048576) (ha : Nu.At w B v vars) :
    Calls Tryz.prog 141 #[.int .i64 st, .int .i64 now, v] w fun e w' => e = .returned (.int .i64 (stateC st now vars)) ∧ Below w.heap.size w w' := by
  have HT := hid (fun w' => isTime now w')
  have HV := hid (Ex.implVarsB B vars v w hl ha)
  obtain ⟨a, cap, rfl⟩ := ha.slice
  clear ha
  cases h1 : inR st 1 3
  · have HX := hid (st_status (now := now) (vars := vars) h1)
    have h1' := Ex.inR_not.1 h1
    by_cases q1 : st < 1
    · clear h1 h1'
      go_enter Tryz.func141, Tryz.ntmps141
      go_wp2
      go_ret
      exact ⟨by rw [HX.out]; rfl, Below.refl _ _⟩
    · have q2 : (3 : Int) < st := by omega
      clear h1 h1'
      go_enter Tryz.func141, Tryz.ntmps141
      go_wp2
      go_ret
      exact ⟨by rw [HX.out]; rfl, Below.refl _ _⟩
  · have h1' := Ex.inR_iff.1 h1
    have q1 : ¬ st < 1 := by omega
    have q2 : ¬ (3 : Int) < st := by omega
    cases h2 : inR now 0 1000000
    · have HX := hid (st_now (vars := vars) h1 h2)
      rw [h2] at HT
      clear h1 h1' h2
      go_enter Tryz.func141, Tryz.ntmps141
      go_wp2_with (go_at_call 94; refine (HT.out _).mono ?_; rintro e w2 ⟨rfl, hw2⟩; replace hw2 := hw2.symm; subst hw2)
      go_ret
      exact ⟨by rw [HX.out]; rfl, Below.refl _ _⟩
    · have HX := hid (st_vars (vars := vars) h1 h2)
      rw [h2] at HT
      clear h1 h1' h2
      go_enter Tryz.func141, Tryz.ntmps141
      go_wp2_with (first | (go_at_call 94; refine (HT.out _).mono ?_; rintro e w2 ⟨rfl, hw2⟩; replace hw2 := hw2.symm; subst hw2) | (go_at_call 178; refine HV.out.mono ?_; rintro e w2 ⟨rfl, hb2⟩))
      go_ret
      exact ⟨by rw [HX.out]; rfl, by assumption⟩
set_option maxRecDepth 100000 in
set_option maxHeartbeats 2000000 in
theorem allWithin (B : Nat) (l : List Int) (m : Int) (v : Value) (w : World) (hl : l.length ≤ 1048576) (ha : Nu.At w B v l) :
    Calls Tryz.prog 142 #[v, .int .i64 m] w fun e w' => e = .returned (.bool (within l m)) ∧ w' = w := by
  obtain ⟨a, cap, rfl⟩ := ha.slice
  have HA := hid ha
  clear ha
  go_enter Tryz.func142, Tryz.ntmps142
  go_wp2
  go_loop [6, 9] (fun _ x => ∃ i : Nat, x = .int .i64 i ∧ i ≤ l.length ∧ Hid (within (l.take i) m = true)) (fun _ x => l.length - (intOf x).toNat)
  case atStart => exact ⟨0, rfl, Nat.zero_le _, hid rfl⟩
  case round =>
    obtain ⟨i, rfl, hi, HW⟩ := hrel
    by_cases hlt : i < l.length
    · obtain ⟨g, o, rfl, hg, hc⟩ := HA.out.at hlt
      have q1 : (i : Int) < (l.length : Int) := by omega
      have HN := hid (within_take (m := m) hlt)
      have HBD := hid (within_bad (m := m) hlt)
      generalize l[i] = x at *
      cases hx : inR x 0 m
      · have HF := hid (HBD.out hx)
        have h2 := Ex.inR_not.1 hx
        by_cases q2 : x < 0
        · clear h2 hx HBD HN
          go_wp2
          go_ret
          exact ⟨by rw [HF.out]; rfl, rfl⟩
        · have q3 : m < x := by omega
          clear h2 hx HBD HN
          go_wp2
          go_ret
          exact ⟨by rw [HF.out]; rfl, rfl⟩
      · have h2 := Ex.inR_iff.1 hx
        have q2 : ¬ x < 0 := by omega
        have q3 : ¬ m < x := by omega
        have HW2 : Hid (within (l.take (i + 1)) m = true) := hid (by rw [HN.out, HW.out, hx]; rfl)
        clear h2 hx HBD HN
        go_wp2
        exact ⟨⟨i + 1, by simp, by omega, HW2⟩, by simp [intOf]; omega⟩
    · have HF : Hid (within l m = true) := hid (by have := HW.out; rwa [List.take_of_length_le (by omega)] at this)
      have q1 : ¬ (i : Int) < (l.length : Int) := by omega
      go_wp2
      go_ret
      exact ⟨by rw [HF.out]; rfl, rfl⟩
set_option maxRecDepth 100000 in
set_option maxHeartbeats 4000000 in
theorem numbersFault (r : RunD) (sa : Option Addr) (n sc : Nat) (v1 v2 v3 : Value) (w : World) (hn : n ≤ 24) (hs : Ch.Small 1048576 r) (ha : Ch.At w 0 v1 v2 v3 r) :
    Calls Tryz.prog 110 #[.slice sa n sc, .agg #[.int .i64 r.status, .int .i64 r.now, v1, v2, v3]] w fun e w' => e = .returned (.int .i64 (numC n r)) ∧ Below w.heap.size w w' := by
  obtain ⟨a1, c1, rfl⟩ := ha.vars.slice
  obtain ⟨a2, c2, rfl⟩ := ha.marks.slice
  obtain ⟨a3, c3, rfl⟩ := ha.dues.slice
  have s1 := hs.vars
  have s2 := hs.marks
  have s3 := hs.dues
  obtain ⟨w0, e0⟩ : ∃ w0, w0 = w.alloc (.cells #[.int .i64 r.status, .int .i64 r.now, .slice a1 r.vars.length c1, .slice a2 r.marks.length c2, .slice a3 r.dues.length c3] 91) := ⟨_, rfl⟩
  have hb0 : Below w.heap.size w w0 := by rw [e0]; exact (Below.refl _ w).alloc (Nat.le_refl _) _
  have hk0 : w0.heap[w.heap.size]? = some (.cells #[.int .i64 r.status, .int .i64 r.now, .slice a1 r.vars.length c1, .slice a2 r.marks.length c2, .slice a3 r.dues.length c3] 91) := by rw [e0]; exact Ch.new_blk _ _
  have HS := hid (stateFault 0 r.status r.now r.vars _ w0 (by omega) (ha.vars.below hb0))
  have HA2 := hid (ha.marks.below hb0)
  have HA3 := hid (ha.dues.below hb0)
  have HB0 := hid hb0
  clear ha hb0 hs
  go_enter Tryz.func110, Tryz.ntmps110
  go_wp2_with fail
  rw [← e0]
  refine HS.out.mono ?_
  rintro e w1 ⟨rfl, hb1⟩
  have hk1 := (hb1.block _ (Ch.blk_lt hk0)).trans hk0
  have d0 : w1.cell? ⟨w.heap.size, 0, none⟩ = some (.int .i64 r.status) := Ch.blk_cell hk1 0
  have d1 : w1.cell? ⟨w.heap.size, 1, none⟩ = some (.int .i64 r.now) := Ch.blk_cell hk1 1
  have d3 : w1.cell? ⟨w.heap.size, 3, none⟩ = some (.slice a2 r.marks.length c2) := Ch.blk_cell hk1 3
  have d4 : w1.cell? ⟨w.heap.size, 4, none⟩ = some (.slice a3 r.dues.length c3) := Ch.blk_cell hk1 4
  have HB1 := hid (HB0.out.trans (hb1.mono HB0.out.size))
  have HM := hid (fun w' (e : w' = w1) => allWithin 0 r.marks 2 (.slice a2 r.marks.length c2) w' (by omega) (by rw [e]; exact HA2.out.below hb1))
  have HD := hid (fun w' (e : w' = w1) => allWithin 0 r.dues (r.now + 99) (.slice a3 r.dues.length c3) w' (by omega) (by rw [e]; exact HA3.out.below hb1))
  clear HS HA2 HA3 hb1 hk1 hk0 e0
  by_cases h0 : stateC r.status r.now r.vars = 0
  · have b0 : (stateC r.status r.now r.vars != 0) = false := by simp [h0]
    obtain ⟨_, hnow, _⟩ := of_state h0
    have hnow' := Ex.inR_iff.1 hnow
    clear hnow
    by_cases h1 : r.marks.length = n ∧ r.dues.length = n
    · have b1 : ((r.marks.length : Int) != (n : Int)) = false := by simp [h1.1]
      have b2 : ((r.dues.length : Int) != (n : Int)) = false := by simp [h1.2]
      have HX1 := hid (num_range h0 h1.1 h1.2)
      have HX2 := hid (num_ok h0 h1.1 h1.2)
      clear h0 h1
      cases h2 : within r.marks 2
      · have HX := hid (HX1.out (by rw [h2]; rfl))
        rw [h2] at HM
        clear h2 HX1 HX2
        go_wp2_with (go_at_call 142; refine (HM.out _ rfl).mono ?_; rintro e w2 ⟨rfl, hw2⟩; replace hw2 := hw2.symm; subst hw2)
        go_ret
        exact ⟨by rw [HX.out]; rfl, HB1.out⟩
      · rw [h2] at HM
        cases h3 : within r.dues (r.now + 99)
        · have HX := hid (HX1.out (by rw [h2, h3]; rfl))
          rw [h3] at HD
          clear h2 h3 HX1 HX2
          go_wp2_with fail
          refine (HM.out _ rfl).mono ?_
          rintro e w2 ⟨rfl, hw2⟩
          replace hw2 := hw2.symm
          subst hw2
          go_wp2_with fail
          refine (HD.out _ rfl).mono ?_
          rintro e w2 ⟨rfl, hw2⟩
          replace hw2 := hw2.symm
          subst hw2
          go_wp2
          go_ret
          exact ⟨by rw [HX.out]; rfl, HB1.out⟩
        · have HX := hid (HX2.out h2 h3)
          rw [h3] at HD
          clear h2 h3 HX1 HX2
          go_wp2_with fail
          refine (HM.out _ rfl).mono ?_
          rintro e w2 ⟨rfl, hw2⟩
          replace hw2 := hw2.symm
          subst hw2
          go_wp2_with fail
          refine (HD.out _ rfl).mono ?_
          rintro e w2 ⟨rfl, hw2⟩
          replace hw2 := hw2.symm
          subst hw2
          go_wp2
          go_ret
          exact ⟨by rw [HX.out]; rfl, HB1.out⟩
    · have HX := hid (num_len h0 h1)
      clear HM HD
      by_cases h2 : r.marks.length = n
      · have b1 : ((r.marks.length : Int) != (n : Int)) = false := by simp [h2]
        have b2 : ((r.dues.length : Int) != (n : Int)) = true := bne_iff_ne.2 (fun e => h1 ⟨h2, by omega⟩)
        clear h0 h1 h2
        go_wp2
        go_ret
        exact ⟨by rw [HX.out]; rfl, HB1.out⟩
      · have b1 : ((r.marks.length : Int) != (n : Int)) = true := bne_iff_ne.2 (fun e => h2 (by omega))
        clear h0 h1 h2
        go_wp2
        go_ret
        exact ⟨by rw [HX.out]; rfl, HB1.out⟩
  · have b0 : (stateC r.status r.now r.vars != 0) = true := bne_iff_ne.2 h0
    have HX := hid (num_state (n := n) h0)
    clear h0 HM HD
    go_wp2
    go_ret
    exact ⟨by rw [HX.out]; rfl, HB1.out⟩
end Kc
end Go.Proofs.YtkelmhkakdeghaaGreatDoor
/- Whether a chart goes together, asked by the program. -/
namespace Go.Proofs.YtkelmhkakdeghaaGreatDoor
open Go.RowKit Go.Deep
set_option linter.unusedVariables false
namespace Kc
open Ex (inR evalCode evalVal vFault hid)
open St (StepD)
open Ch (RunD)
open Pf
theorem kids_at {w : World} {v : Value} {l : List Nat} (h : KidsAt w v l) (h0 : 0 < l.length) : ∃ bk cap, v = .slice (some ⟨bk, 0, none⟩) l.length cap ∧ bk < w.heap.size ∧ l.length ≤ cap ∧ cap ≤ maxLen ∧ ∀ i (h : i < l.length), w.cell? ⟨bk, i, none⟩ = some (.int .i64 (l[i] : Int)) := by
  obtain ⟨B, ho⟩ := h
  obtain ⟨_, ⟨_, h1⟩ | ⟨g, cap, cur, rfl, hbg, hg, hle, hm, hs, hcur⟩⟩ := ho
  · omega
  · refine ⟨g, cap, rfl, (Array.getElem?_eq_some_iff.1 hg).1, by simpa using hle, hm, fun i hi => ?_⟩
    have h2 : (Pt.kidVals l)[i]? = some (.int .i64 (l[i] : Int)) := by simp [Pt.kidVals, hi]
    rw [← hcur, List.getElem?_take, if_pos (by omega)] at h2
    simp only [World.cell?, hg, Option.isSome_none, Bool.false_eq_true, if_false]
    simpa using h2
theorem kid24 {ss : List StepD} {j x : Nat} (hl : ss.length ≤ 24) (h : x ∈ kidsL ss j) : x < 24 := by have := (kid_mem.1 h).1; omega
set_option maxRecDepth 100000 in
set_option maxHeartbeats 4000000 in
theorem countKids (wg w : World) (R : Nat) (u : Value) (ss : List StepD) (s : CS) (j : Nat) (hj : j < ss.length) (hl : ss.length ≤ 24) (kv vc ve : Value) (d : Int) (v : Int) (hc : PCells w ss j hj kv vc ve) (h : KAt wg w R u ss s) :
    Calls Tryz.prog 179 #[.pointer (some ⟨R, 0, none⟩), .agg #[.int .i64 (j : Int), .int .i64 d, kv, .int .i64 ss[j].kind, .int .i64 ss[j].parent, .string ss[j].name, .int .i64 ss[j].arg, vc, ve], .int .i64 v] w fun e w' => e = .returned (.int .i64 (cntK s.acts (kidsL ss j) v : Int)) ∧ Below w.heap.size w w' := by
  have hks := hc.kids
  obtain ⟨ak, ck, rfl⟩ := hks.slice
  obtain ⟨ac, cc, rfl⟩ := hc.cond.slice
  obtain ⟨ae, ce, rfl⟩ := hc.expr.slice
  have hin : Hid (∀ x ∈ kidsL ss j, x < 24) := hid (fun x hx => kid24 hl hx)
  have hlen : (kidsL ss j).length ≤ 24 := by have := kidsN_le ss ss.length j; unfold kidsL; omega
  obtain ⟨w0, e0⟩ : ∃ w0, w0 = w.alloc (.cells #[.int .i64 (j : Int), .int .i64 d, .slice ak (kidsL ss j).length ck, .int .i64 ss[j].kind, .int .i64 ss[j].parent, .string ss[j].name, .int .i64 ss[j].arg, .slice ac ss[j].cond.length cc, .slice ae ss[j].expr.length ce] 198) := ⟨_, rfl⟩
  have hb0 : Below w.heap.size w w0 := by rw [e0]; exact (Below.refl _ w).alloc (Nat.le_refl _) _
  have HB0 := hid hb0
  have HK := hid (h.below hb0)
  have HKS := hid (hks.below hb0)
  have k2 : w0.cell? ⟨w.heap.size, 2, none⟩ = some (.slice ak (kidsL ss j).length ck) := by rw [e0]; exact Ch.blk_cell (Ch.new_blk _ _) 2
  clear hc h hks hb0
  generalize kidsL ss j = ks at *
  go_enter Tryz.func179, Tryz.ntmps179
  go_wp2
  rw [← e0]
  clear e0
  go_loop [7, 9, 14] (fun c _ x => ∃ i : Nat, x = .int .i64 i ∧ i ≤ ks.length ∧ ∃ m : Nat, c = .int .i64 m ∧ m ≤ i ∧ Hid (m = cntK s.acts (ks.take i) v)) (fun _ _ x => ks.length - (intOf x).toNat)
  case atStart => exact ⟨0, rfl, Nat.zero_le _, 0, rfl, Nat.le_refl _, hid rfl⟩
  case round =>
    obtain ⟨i, rfl, hi, m, rfl, hm, HM⟩ := hrel
    by_cases hlt : i < ks.length
    · obtain ⟨bk, cap, e, hbk, _, _, hcell⟩ := kids_at HKS.out (by omega)
      cases e
      have c1 := hcell i hlt
      have hx := hin.out _ (List.getElem_mem hlt)
      have c2 := HK.out.cA hx
      have q1 : (i : Int) < (ks.length : Int) := by omega
      have q2 : (0 : Int) ≤ (ks[i] : Int) := by omega
      have q3 : (ks[i] : Int) < 24 := by omega
      have HN : Hid (cntK s.acts (ks.take (i + 1)) v = cntK s.acts (ks.take i) v + if s.acts ks[i] = v then 1 else 0) := hid (by rw [List.take_succ_eq_append_getElem hlt, cntK_snoc])
      clear hcell
      generalize ks[i] = x at *
      by_cases hv : s.acts x = v
      · have b1 : (s.acts x == v) = true := by simp [hv]
        have HX : Hid (m + 1 = cntK s.acts (ks.take (i + 1)) v) := hid (by rw [HN.out, HM.out, if_pos hv])
        clear hv HN HM
        go_wp2
        exact ⟨⟨i + 1, by simp, by omega, m + 1, by simp, by omega, HX⟩, by simp [intOf]; omega⟩
      · have b1 : (s.acts x == v) = false := by simp [hv]
        have HX : Hid (m = cntK s.acts (ks.take (i + 1)) v) := hid (by rw [HN.out, HM.out, if_neg hv]; rfl)
        clear hv HN HM
        go_wp2
        exact ⟨⟨i + 1, by simp, by omega, m, rfl, by omega, HX⟩, by simp [intOf]; omega⟩
    · have q1 : ¬ (i : Int) < (ks.length : Int) := by omega
      have HX : Hid (m = cntK s.acts ks v) := hid (by have := HM.out; rwa [List.take_of_length_le (by omega)] at this)
      clear HM
      go_wp2
      go_ret
      exact ⟨by rw [← HX.out]; rfl, HB0.out⟩
end Kc
end Go.Proofs.YtkelmhkakdeghaaGreatDoor
