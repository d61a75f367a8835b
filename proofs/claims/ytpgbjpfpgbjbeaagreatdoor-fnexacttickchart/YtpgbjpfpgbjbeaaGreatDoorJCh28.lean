/- Laid together: KcA, KcB, KfG, KfH. -/
import Derived.Test.YtpgbjpfpgbjbeaaGreatDoorJCh27
import Derived.Test.YtpgbjpfpgbjbeaaGreatDoorJCh23
import Derived.Laws.IdiomCopy
import Derived.Deep.MidRow
import Derived.Deep.Upon
import Derived.ChangeKeysEq
import Derived.Deep.RegionHeld3
/- A chart under way in the program's memory: one block of 55 cells. -/
namespace Go.Proofs.YtpgbjpfpgbjbeaaGreatDoor
open Go.RowKit Go.Deep
set_option linter.unusedVariables false
namespace Kc
open Ex (inR evalCode evalVal vFault hid)
open St (StepD)
open Ch (RunD)
open Pf
def kval (u : Value) (s : CS) (j : Nat) : Value :=
  if j = 0 then u else if j = 1 then .int .i64 s.status else if j = 2 then .int .i64 s.now else if j < 7 then .int .i64 (s.vars.getD (j - 3) 0) else if j < 31 then .int .i64 (s.acts (j - 7)) else .int .i64 (s.dues (j - 31))
def kcs (u : Value) (s : CS) : List Value := (List.range 55).map (kval u s)
theorem kcs_len (u : Value) (s : CS) : (kcs u s).length = 55 := by simp [kcs]
theorem kcs_get {u : Value} {s : CS} {j : Nat} (h : j < 55) : (kcs u s)[j]? = some (kval u s j) := by
  unfold kcs
  rw [List.getElem?_map, List.getElem?_range h]
  rfl
theorem kcs_set {u : Value} {s s' : CS} {j : Nat} {v : Value} (h1 : j < 55) (h : ∀ i, i < 55 → kval u s' i = if j = i then v else kval u s i) : (kcs u s).set j v = kcs u s' := by
  refine List.ext_getElem? fun i => ?_
  rw [List.getElem?_set, kcs_len]
  rcases Nat.lt_or_ge i 55 with hi | hi
  · rw [kcs_get hi, kcs_get hi, h i hi]
    split <;> rfl
  · rw [if_neg (by omega), List.getElem?_eq_none (by rw [kcs_len]; exact hi), List.getElem?_eq_none (by rw [kcs_len]; exact hi)]
structure KAt (wg w : World) (R : Nat) (u : Value) (ss : List StepD) (s : CS) : Prop where
  st : PAt wg ss u
  cap : capOk u
  bel : Below wg.heap.size wg w
  old : wg.heap.size ≤ R
  blk : w.heap[R]? = some (.cells (kcs u s).toArray 71)
  len : s.vars.length = 4
  pad : ∀ i, ss.length ≤ i → s.acts i = 0 ∧ s.dues i = 0
theorem KAt.below {wg w w' : World} {R : Nat} {u : Value} {ss : List StepD} {s : CS} (h : KAt wg w R u ss s) (hb : Below w.heap.size w w') : KAt wg w' R u ss s :=
  ⟨h.st, h.cap, h.bel.trans (hb.mono h.bel.size), h.old, (hb.block R (Array.getElem?_eq_some_iff.1 h.blk).1).trans h.blk, h.len, h.pad⟩
theorem KAt.lt {wg w : World} {R : Nat} {u : Value} {ss : List StepD} {s : CS} (h : KAt wg w R u ss s) : R < w.heap.size := (Array.getElem?_eq_some_iff.1 h.blk).1
theorem KAt.cell {wg w : World} {R : Nat} {u : Value} {ss : List StepD} {s : CS} (h : KAt wg w R u ss s) {j : Nat} (hj : j < 55) : w.cell? ⟨R, j, none⟩ = some (kval u s j) := by
  have := kcs_get (u := u) (s := s) hj
  simp only [World.cell?, h.blk, Option.isSome_none, Bool.false_eq_true, if_false]
  simpa using this
theorem KAt.free {wg w : World} {R : Nat} {u : Value} {ss : List StepD} {s : CS} (h : KAt wg w R u ss s) (j : Nat) : w.frozen? ⟨R, j, none⟩ = false := by simp [World.frozen?, h.blk]
theorem KAt.c0 {wg w : World} {R : Nat} {u : Value} {ss : List StepD} {s : CS} (h : KAt wg w R u ss s) : w.cell? ⟨R, 0, none⟩ = some u := h.cell (by decide)
theorem KAt.c1 {wg w : World} {R : Nat} {u : Value} {ss : List StepD} {s : CS} (h : KAt wg w R u ss s) : w.cell? ⟨R, 1, none⟩ = some (.int .i64 s.status) := h.cell (by decide)
theorem KAt.c2 {wg w : World} {R : Nat} {u : Value} {ss : List StepD} {s : CS} (h : KAt wg w R u ss s) : w.cell? ⟨R, 2, none⟩ = some (.int .i64 s.now) := h.cell (by decide)
theorem KAt.cA {wg w : World} {R : Nat} {u : Value} {ss : List StepD} {s : CS} (h : KAt wg w R u ss s) {i : Nat} (hi : i < 24) : w.cell? ⟨R, 7 + i, none⟩ = some (.int .i64 (s.acts i)) := by
  rw [h.cell (by omega)]
  unfold kval
  rw [if_neg (by omega), if_neg (by omega), if_neg (by omega), if_neg (by omega), if_pos (by omega), Nat.add_sub_cancel_left]
theorem KAt.cD {wg w : World} {R : Nat} {u : Value} {ss : List StepD} {s : CS} (h : KAt wg w R u ss s) {i : Nat} (hi : i < 24) : w.cell? ⟨R, 31 + i, none⟩ = some (.int .i64 (s.dues i)) := by
  rw [h.cell (by omega)]
  unfold kval
  rw [if_neg (by omega), if_neg (by omega), if_neg (by omega), if_neg (by omega), if_neg (by omega), Nat.add_sub_cancel_left]
theorem KAt.cV {wg w : World} {R : Nat} {u : Value} {ss : List StepD} {s : CS} (h : KAt wg w R u ss s) {i : Nat} (hi : i < 4) : w.cell? ⟨R, 3 + i, none⟩ = some (.int .i64 (s.vars.getD i 0)) := by
  rw [h.cell (by omega)]
  unfold kval
  rw [if_neg (by omega), if_neg (by omega), if_neg (by omega), if_pos (by omega), Nat.add_sub_cancel_left]
theorem KAt.steps {wg w : World} {R : Nat} {u : Value} {ss : List StepD} {s : CS} (h : KAt wg w R u ss s) : PAt w ss u := h.st.below h.bel
set_option maxRecDepth 100000 in
set_option maxHeartbeats 1000000 in
theorem isOn (wg w : World) (R : Nat) (u : Value) (ss : List StepD) (s : CS) (k : Nat) (hk : k < 24) (h : KAt wg w R u ss s) :
    Calls Tryz.prog 53 #[.pointer (some ⟨R, 0, none⟩), .int .i64 (k : Int)] w fun e w' => e = .returned (.bool (s.acts k == 1)) ∧ w' = w := by
  have c := h.cA hk
  have q1 : (0 : Int) ≤ (k : Int) := by omega
  have q2 : (k : Int) < 24 := by omega
  clear h
  go_enter Tryz.func53, Tryz.ntmps53
  go_wp2
  go_ret
  exact ⟨rfl, rfl⟩
end Kc
end Go.Proofs.YtpgbjpfpgbjbeaaGreatDoor
/- A chart under way in the program's memory: what is written there. -/
namespace Go.Proofs.YtpgbjpfpgbjbeaaGreatDoor
open Go.RowKit Go.Deep
set_option linter.unusedVariables false
set_option linter.unusedSimpArgs false
namespace Kc
open Ex (inR evalCode evalVal vFault hid)
open St (StepD)
open Ch (RunD)
open Pf
def setL (cs : List Value) (o : Nat) : List Value → List Value
  | [] => cs
  | v :: r => setL (cs.set o v) (o + 1) r
theorem setL_len : ∀ (vs cs : List Value) (o : Nat), (setL cs o vs).length = cs.length
  | [], _, _ => rfl
  | v :: r, cs, o => by rw [setL, setL_len r]; simp
theorem setL_get : ∀ (vs cs : List Value) (o j : Nat), o + vs.length ≤ cs.length → (setL cs o vs)[j]? = if o ≤ j ∧ j < o + vs.length then vs[j - o]? else cs[j]?
  | [], cs, o, j, _ => by rw [setL, if_neg (by simp)]
  | v :: r, cs, o, j, h => by
    simp only [List.length_cons] at h
    rw [setL, setL_get r _ _ _ (by simp; omega), List.length_cons]
    by_cases h1 : j = o
    · subst h1
      rw [if_neg (by omega), if_pos (by omega), List.getElem?_set_self (by omega), Nat.sub_self]
      rfl
    · by_cases h2 : o + 1 ≤ j ∧ j < o + 1 + r.length
      · rw [if_pos h2, if_pos (by omega), show j - o = (j - (o + 1)) + 1 by omega]
        rfl
      · rw [if_neg h2, if_neg (by omega), List.getElem?_set_ne (by omega)]
theorem heap_setCells : ∀ (vs : List Value) (w : World) (b o : Nat) (cs : List Value) (t : TypeId), w.heap[b]? = some (.cells cs.toArray t) → (w.setCells b o vs).heap[b]? = some (.cells (setL cs o vs).toArray t)
  | [], w, b, o, cs, t, h => h
  | v :: r, w, b, o, cs, t, h => by
    rw [World.setCells, setL]
    refine heap_setCells r _ b (o + 1) (cs.set o v) t ?_
    have := Ch.blk_set (i := o) h v
    simpa only [List.setIfInBounds_toArray] using this
theorem heap_other : ∀ (vs : List Value) (w : World) (b o : Nat) {i : Nat}, i ≠ b → (w.setCells b o vs).heap[i]? = w.heap[i]?
  | [], w, b, o, i, _ => rfl
  | v :: r, w, b, o, i, h => by
    rw [World.setCells, heap_other r _ b (o + 1) h]
    exact Below.heap_setCell _ _ _ _ h
theorem size_setCells : ∀ (vs : List Value) (w : World) (b o : Nat), (w.setCells b o vs).heap.size = w.heap.size
  | [], w, b, o => rfl
  | v :: r, w, b, o => by rw [World.setCells, size_setCells r]; simp [World.setCell]
theorem below_setCells {B : Nat} {x : World} : ∀ (vs : List Value) (w : World) (b o : Nat), B ≤ b → Below B x w → Below B x (w.setCells b o vs)
  | [], w, b, o, _, h => h
  | v :: r, w, b, o, hb, h => by
    rw [World.setCells]
    exact below_setCells r _ b (o + 1) hb (h.setCell (p := ⟨b, o, none⟩) hb v)
/-- Only the chart's own block is written, and what is new. -/
structure Rides (R : Nat) (w w' : World) : Prop where
  os : w'.os = w.os
  tape : w'.tape = w.tape
  output : w'.output = w.output
  size : w.heap.size ≤ w'.heap.size
  block : ∀ b, b < w.heap.size → b ≠ R → w'.heap[b]? = w.heap[b]?
theorem Rides.of_below {R : Nat} {w w' : World} (h : Below w.heap.size w w') : Rides R w w' := ⟨h.os, h.tape, h.output, h.size, fun b hb _ => h.block b hb⟩
theorem Rides.trans {R : Nat} {a b c : World} (h : Rides R a b) (h' : Rides R b c) : Rides R a c :=
  ⟨h'.os.trans h.os, h'.tape.trans h.tape, h'.output.trans h.output, Nat.le_trans h.size h'.size, fun k hk hn => (h'.block k (Nat.lt_of_lt_of_le hk h.size) hn).trans (h.block k hk hn)⟩
theorem Rides.refl (R : Nat) (w : World) : Rides R w w := ⟨rfl, rfl, rfl, Nat.le_refl _, fun _ _ _ => rfl⟩
theorem Rides.set (R : Nat) (w : World) (o : Nat) (v : Value) : Rides R w (w.setCell ⟨R, o, none⟩ v) :=
  ⟨rfl, rfl, rfl, by simp [World.setCell], fun b hb hn => Below.heap_setCell _ _ _ _ hn⟩
theorem Rides.sets (R : Nat) : ∀ (vs : List Value) (w : World) (o : Nat), Rides R w (w.setCells R o vs)
  | [], w, o => Rides.refl R w
  | v :: r, w, o => (Rides.set R w o v).trans (Rides.sets R r _ (o + 1))
/-- From an old world on, where the block is newer, all is kept. -/
theorem Rides.below {R : Nat} {wg w w' : World} (h : Rides R w w') (hb : Below wg.heap.size wg w) (ho : wg.heap.size ≤ R) : Below wg.heap.size wg w' :=
  ⟨h.os.trans hb.os, h.tape.trans hb.tape, h.output.trans hb.output, Nat.le_trans hb.size h.size, fun b hb' => (h.block b (Nat.lt_of_lt_of_le hb' hb.size) (by omega)).trans (hb.block b hb')⟩
theorem kcs_setL {u : Value} {s s' : CS} {o : Nat} {vs : List Value} (h1 : o + vs.length ≤ 55) (h : ∀ j, j < 55 → some (kval u s' j) = if o ≤ j ∧ j < o + vs.length then vs[j - o]? else some (kval u s j)) : setL (kcs u s) o vs = kcs u s' := by
  refine List.ext_getElem? fun j => ?_
  rw [setL_get _ _ _ _ (by rw [kcs_len]; exact h1)]
  rcases Nat.lt_or_ge j 55 with hj | hj
  · rw [kcs_get hj, kcs_get hj, h j hj]
  · rw [if_neg (by omega), List.getElem?_eq_none (by rw [kcs_len]; exact hj), List.getElem?_eq_none (by rw [kcs_len]; exact hj)]
theorem KAt.puts {wg w : World} {R : Nat} {u : Value} {ss : List StepD} {s s' : CS} (h : KAt wg w R u ss s) {o : Nat} {vs : List Value} (h1 : o + vs.length ≤ 55) (hk : ∀ j, j < 55 → some (kval u s' j) = if o ≤ j ∧ j < o + vs.length then vs[j - o]? else some (kval u s j)) (hl : s'.vars.length = 4) (hpad : ∀ i, ss.length ≤ i → s'.acts i = 0 ∧ s'.dues i = 0) :
    KAt wg (w.setCells R o vs) R u ss s' :=
  ⟨h.st, h.cap, below_setCells _ _ _ _ h.old h.bel, h.old, by rw [heap_setCells _ _ _ _ _ _ h.blk, kcs_setL h1 hk], hl, hpad⟩
theorem KAt.put {wg w : World} {R : Nat} {u : Value} {ss : List StepD} {s s' : CS} (h : KAt wg w R u ss s) {o : Nat} {v : Value} (h1 : o < 55) (hk : ∀ j, j < 55 → kval u s' j = if o = j then v else kval u s j) (hl : s'.vars.length = 4) (hpad : ∀ i, ss.length ≤ i → s'.acts i = 0 ∧ s'.dues i = 0) :
    KAt wg (w.setCell ⟨R, o, none⟩ v) R u ss s' :=
  h.puts (o := o) (vs := [v]) (by simp; omega) (fun j hj => by
    rw [hk j hj]
    by_cases e : o = j
    · subst e; simp
    · rw [if_neg e, if_neg (by simp; omega)]) hl hpad
theorem kval_act {u : Value} {s : CS} {k : Nat} (hk : k < 24) (v : Int) {j : Nat} (hj : j < 55) : kval u (act s k v) j = if 7 + k = j then .int .i64 v else kval u s j := by
  unfold kval act upd
  by_cases e : 7 + k = j
  · subst e
    rw [if_pos rfl, if_neg (by omega), if_neg (by omega), if_neg (by omega), if_neg (by omega), if_pos (by omega)]
    simp
  · rw [if_neg e]
    by_cases h1 : j < 31
    · by_cases h2 : j < 7
      · simp [h2]
      · have : ¬ j - 7 = k := by omega
        simp [this]
    · simp [h1]
theorem kval_due {u : Value} {s : CS} {k : Nat} (hk : k < 24) (v : Int) {j : Nat} (hj : j < 55) : kval u (due s k v) j = if 31 + k = j then .int .i64 v else kval u s j := by
  unfold kval due upd
  by_cases e : 31 + k = j
  · subst e
    rw [if_pos rfl, if_neg (by omega), if_neg (by omega), if_neg (by omega), if_neg (by omega), if_neg (by omega)]
    simp
  · rw [if_neg e]
    by_cases h1 : j < 31
    · simp [h1]
    · have : ¬ j - 31 = k := by omega
      simp [this]
theorem KAt.act {wg w : World} {R : Nat} {u : Value} {ss : List StepD} {s : CS} (h : KAt wg w R u ss s) {k : Nat} (hk : k < ss.length) (hl : ss.length ≤ 24) (v : Int) : KAt wg (w.setCell ⟨R, 7 + k, none⟩ (.int .i64 v)) R u ss (act s k v) :=
  h.put (by omega) (fun j hj => kval_act (by omega) v hj) h.len (fun i hi => ⟨by show upd s.acts k v i = 0; unfold upd; rw [if_neg (by omega)]; exact (h.pad i hi).1, (h.pad i hi).2⟩)
theorem KAt.due {wg w : World} {R : Nat} {u : Value} {ss : List StepD} {s : CS} (h : KAt wg w R u ss s) {k : Nat} (hk : k < ss.length) (hl : ss.length ≤ 24) (v : Int) : KAt wg (w.setCell ⟨R, 31 + k, none⟩ (.int .i64 v)) R u ss (due s k v) :=
  h.put (by omega) (fun j hj => kval_due (by omega) v hj) h.len (fun i hi => ⟨(h.pad i hi).1, by show upd s.dues k v i = 0; unfold upd; rw [if_neg (by omega)]; exact (h.pad i hi).2⟩)
end Kc
end Go.Proofs.YtpgbjpfpgbjbeaaGreatDoor
/- Whether a chart goes together, asked by the program. -/
namespace Go.Proofs.YtpgbjpfpgbjbeaaGreatDoor
open Go.RowKit Go.Deep
set_option linter.unusedVariables false
namespace Kc
open Ex (inR evalCode evalVal vFault hid)
open St (StepD)
open Ch (RunD)
open Pf
theorem kids_at {w : World} {v : Value} {l : List Nat} (h : KidsAt w v l) (h0 : 0 < l.length) : ∃ bk cap, v = .slice (some ⟨bk, 0, none⟩) l.length cap ∧ bk < w.heap.size ∧ l.length ≤ cap ∧ cap ≤ maxLen ∧ ∀ i (h : i < l.length), w.cell? ⟨bk, i, none⟩ = some (.int .i64 (l[i] : Int)) := by
  obtain ⟨B, ho⟩ := h
  obtain ⟨_, ⟨_, h1⟩ | ⟨g, cap, cur, rfl, hbg, hg, hle, hm, hs, hcur⟩⟩ := ho
  · omega
  · refine ⟨g, cap, rfl, (Array.getElem?_eq_some_iff.1 hg).1, by simpa using hle, hm, fun i hi => ?_⟩
    have h2 : (Pt.kidVals l)[i]? = some (.int .i64 (l[i] : Int)) := by simp [Pt.kidVals, hi]
    rw [← hcur, List.getElem?_take, if_pos (by omega)] at h2
    simp only [World.cell?, hg, Option.isSome_none, Bool.false_eq_true, if_false]
    simpa using h2
theorem kid24 {ss : List StepD} {j x : Nat} (hl : ss.length ≤ 24) (h : x ∈ kidsL ss j) : x < 24 := by have := (kid_mem.1 h).1; omega
set_option maxRecDepth 100000 in
set_option maxHeartbeats 4000000 in
theorem countKids (wg w : World) (R : Nat) (u : Value) (ss : List StepD) (s : CS) (j : Nat) (hj : j < ss.length) (hl : ss.length ≤ 24) (kv vc ve : Value) (d : Int) (v : Int) (hc : PCells w ss j hj kv vc ve) (h : KAt wg w R u ss s) :
    Calls Tryz.prog 132 #[.pointer (some ⟨R, 0, none⟩), .agg #[.int .i64 (j : Int), .int .i64 d, kv, .int .i64 ss[j].kind, .int .i64 ss[j].parent, .string ss[j].name, .int .i64 ss[j].arg, vc, ve], .int .i64 v] w fun e w' => e = .returned (.int .i64 (cntK s.acts (kidsL ss j) v : Int)) ∧ Below w.heap.size w w' := by
  have hks := hc.kids
  obtain ⟨ak, ck, rfl⟩ := hks.slice
  obtain ⟨ac, cc, rfl⟩ := hc.cond.slice
  obtain ⟨ae, ce, rfl⟩ := hc.expr.slice
  have hin : Hid (∀ x ∈ kidsL ss j, x < 24) := hid (fun x hx => kid24 hl hx)
  have hlen : (kidsL ss j).length ≤ 24 := by have := kidsN_le ss ss.length j; unfold kidsL; omega
  obtain ⟨w0, e0⟩ : ∃ w0, w0 = w.alloc (.cells #[.int .i64 (j : Int), .int .i64 d, .slice ak (kidsL ss j).length ck, .int .i64 ss[j].kind, .int .i64 ss[j].parent, .string ss[j].name, .int .i64 ss[j].arg, .slice ac ss[j].cond.length cc, .slice ae ss[j].expr.length ce] 86) := ⟨_, rfl⟩
  have hb0 : Below w.heap.size w w0 := by rw [e0]; exact (Below.refl _ w).alloc (Nat.le_refl _) _
  have HB0 := hid hb0
  have HK := hid (h.below hb0)
  have HKS := hid (hks.below hb0)
  have k2 : w0.cell? ⟨w.heap.size, 2, none⟩ = some (.slice ak (kidsL ss j).length ck) := by rw [e0]; exact Ch.blk_cell (Ch.new_blk _ _) 2
  clear hc h hks hb0
  generalize kidsL ss j = ks at *
  go_enter Tryz.func132, Tryz.ntmps132
  go_wp2
  rw [← e0]
  clear e0
  go_loop [7, 9, 14] (fun c _ x => ∃ i : Nat, x = .int .i64 i ∧ i ≤ ks.length ∧ ∃ m : Nat, c = .int .i64 m ∧ m ≤ i ∧ Hid (m = cntK s.acts (ks.take i) v)) (fun _ _ x => ks.length - (intOf x).toNat)
  case atStart => exact ⟨0, rfl, Nat.zero_le _, 0, rfl, Nat.le_refl _, hid rfl⟩
  case round =>
    obtain ⟨i, rfl, hi, m, rfl, hm, HM⟩ := hrel
    by_cases hlt : i < ks.length
    · obtain ⟨bk, cap, e, hbk, _, _, hcell⟩ := kids_at HKS.out (by omega)
      cases e
      have c1 := hcell i hlt
      have hx := hin.out _ (List.getElem_mem hlt)
      have c2 := HK.out.cA hx
      have q1 : (i : Int) < (ks.length : Int) := by omega
      have q2 : (0 : Int) ≤ (ks[i] : Int) := by omega
      have q3 : (ks[i] : Int) < 24 := by omega
      have HN : Hid (cntK s.acts (ks.take (i + 1)) v = cntK s.acts (ks.take i) v + if s.acts ks[i] = v then 1 else 0) := hid (by rw [List.take_succ_eq_append_getElem hlt, cntK_snoc])
      clear hcell
      generalize ks[i] = x at *
      by_cases hv : s.acts x = v
      · have b1 : (s.acts x == v) = true := by simp [hv]
        have HX : Hid (m + 1 = cntK s.acts (ks.take (i + 1)) v) := hid (by rw [HN.out, HM.out, if_pos hv])
        clear hv HN HM
        go_wp2
        exact ⟨⟨i + 1, by simp, by omega, m + 1, by simp, by omega, HX⟩, by simp [intOf]; omega⟩
      · have b1 : (s.acts x == v) = false := by simp [hv]
        have HX : Hid (m = cntK s.acts (ks.take (i + 1)) v) := hid (by rw [HN.out, HM.out, if_neg hv]; rfl)
        clear hv HN HM
        go_wp2
        exact ⟨⟨i + 1, by simp, by omega, m, rfl, by omega, HX⟩, by simp [intOf]; omega⟩
    · have q1 : ¬ (i : Int) < (ks.length : Int) := by omega
      have HX : Hid (m = cntK s.acts ks v) := hid (by have := HM.out; rwa [List.take_of_length_le (by omega)] at this)
      clear HM
      go_wp2
      go_ret
      exact ⟨by rw [← HX.out]; rfl, HB0.out⟩
end Kc
end Go.Proofs.YtpgbjpfpgbjbeaaGreatDoor
/- Whether a chart goes together, asked by the program. -/
namespace Go.Proofs.YtpgbjpfpgbjbeaaGreatDoor
open Go.RowKit Go.Deep
set_option linter.unusedVariables false
set_option linter.unusedSimpArgs false
namespace Kc
open Ex (inR evalCode evalVal vFault hid)
open St (StepD)
open Ch (RunD)
open Pf
/-- The block of a step with its place. -/
def PBlk (w : World) (b : Nat) (cs : Array Value) : Prop := w.heap[b]? = some (.cells cs 86)
theorem PBlk.below {w w' : World} {b : Nat} {cs : Array Value} (h : PBlk w b cs) (hb : Below w.heap.size w w') : PBlk w' b cs := (hb.block b (Ch.blk_lt h)).trans h
theorem PBlk.drew {w : World} {b : Nat} {cs : Array Value} (h : PBlk w b cs) : PBlk w.drew b cs := h
theorem PBlk.cell {w : World} {b : Nat} {cs : Array Value} (h : PBlk w b cs) (i : Nat) : w.cell? ⟨b, i, none⟩ = cs[i]? := Ch.blk_cell h i
set_option maxRecDepth 100000 in
set_option maxHeartbeats 8000000 in
theorem hasRightKids (wg w : World) (R : Nat) (u : Value) (ss : List StepD) (s : CS) (j : Nat) (hj : j < ss.length) (hl : ss.length ≤ 24) (kv vc ve : Value) (d : Int) (hc : PCells w ss j hj kv vc ve) (h : KAt wg w R u ss s) :
    Calls Tryz.prog 111 #[.pointer (some ⟨R, 0, none⟩), .agg #[.int .i64 (j : Int), .int .i64 d, kv, .int .i64 ss[j].kind, .int .i64 ss[j].parent, .string ss[j].name, .int .i64 ss[j].arg, vc, ve]] w fun e w' => e = .returned (.bool (rightKids ss s.acts j)) ∧ Below w.heap.size w w' := by
  have HC : Hid (∀ (v : Int) wx, Below w.heap.size w wx → Calls Tryz.prog 132 #[.pointer (some ⟨R, 0, none⟩), .agg #[.int .i64 (j : Int), .int .i64 d, kv, .int .i64 ss[j].kind, .int .i64 ss[j].parent, .string ss[j].name, .int .i64 ss[j].arg, vc, ve], .int .i64 v] wx fun e w' => e = .returned (.int .i64 (cntK s.acts (kidsL ss j) v : Int)) ∧ Below wx.heap.size wx w') := hid (fun v wx hb => countKids wg wx R u ss s j hj hl kv vc ve d v (hc.below hb) (h.below hb))
  have HO : Hid (∀ wx, Below w.heap.size w wx → Calls Tryz.prog 53 #[.pointer (some ⟨R, 0, none⟩), .int .i64 (j : Int)] wx fun e w' => e = .returned (.bool (s.acts j == 1)) ∧ w' = wx) := hid (fun wx hb => isOn wg wx R u ss s j (by omega) (h.below hb))
  obtain ⟨ak, ck, rfl⟩ := hc.kids.slice
  obtain ⟨ac, cc, rfl⟩ := hc.cond.slice
  obtain ⟨ae, ce, rfl⟩ := hc.expr.slice
  have hlen : (kidsL ss j).length ≤ 24 := by have := kidsN_le ss ss.length j; unfold kidsL; omega
  have ho1 := cntK_le s.acts (kidsL ss j) 1
  have ho2 := cntK_le s.acts (kidsL ss j) 2
  have HV : Hid (rightKids ss s.acts j = if (kidsL ss j).length = 0 then true else if s.acts j ≠ 1 then (cntK s.acts (kidsL ss j) 1 == 0) && (cntK s.acts (kidsL ss j) 2 == 0) else if ss[j].kind = 4 then decide (0 < cntK s.acts (kidsL ss j) 1) && (cntK s.acts (kidsL ss j) 1 + cntK s.acts (kidsL ss j) 2 == (kidsL ss j).length) else (cntK s.acts (kidsL ss j) 1 == 1) && (cntK s.acts (kidsL ss j) 2 == 0)) := hid (by unfold rightKids; rw [PJ_eq hj])
  obtain ⟨w0, e0⟩ : ∃ w0, w0 = w.alloc (.cells #[.int .i64 (j : Int), .int .i64 d, .slice ak (kidsL ss j).length ck, .int .i64 ss[j].kind, .int .i64 ss[j].parent, .string ss[j].name, .int .i64 ss[j].arg, .slice ac ss[j].cond.length cc, .slice ae ss[j].expr.length ce] 86) := ⟨_, rfl⟩
  have hb0 : Below w.heap.size w w0 := by rw [e0]; exact (Below.refl _ w).alloc (Nat.le_refl _) _
  have hk0 : PBlk w0 w.heap.size #[.int .i64 (j : Int), .int .i64 d, .slice ak (kidsL ss j).length ck, .int .i64 ss[j].kind, .int .i64 ss[j].parent, .string ss[j].name, .int .i64 ss[j].arg, .slice ac ss[j].cond.length cc, .slice ae ss[j].expr.length ce] := by rw [e0]; exact Ch.new_blk _ _
  have HK0d : Hid (PBlk w0.drew w.heap.size #[.int .i64 (j : Int), .int .i64 d, .slice ak (kidsL ss j).length ck, .int .i64 ss[j].kind, .int .i64 ss[j].parent, .string ss[j].name, .int .i64 ss[j].arg, .slice ac ss[j].cond.length cc, .slice ae ss[j].expr.length ce]) := hid hk0.drew
  have hB0 := hb0.drew
  clear hc h hk0 hb0
  generalize rightKids ss s.acts j = res at *
  go_enter Tryz.func111, Tryz.ntmps111
  go_wp2
  rw [← e0]
  clear e0
  refine wp_region_held_drew (S := fun wx => PBlk wx w.heap.size #[.int .i64 (j : Int), .int .i64 d, .slice ak (kidsL ss j).length ck, .int .i64 ss[j].kind, .int .i64 ss[j].parent, .string ss[j].name, .int .i64 ss[j].arg, .slice ac ss[j].cond.length cc, .slice ae ss[j].expr.length ce]) (by kernel_rfl) HK0d.out (fun hHeld => ?_)
  refine wpAnyH_take (i := 0) (v := .pointer (some ⟨R, 0, none⟩)) rfl (by kernel_rfl) (by kernel_rfl) (by kernel_rfl) (fun _ _ _ h => h) (Or.inl ⟨by rfl, by intro w hSw; (try dsimp only at hSw); go_simp⟩) (by assumption) ?_
  simp only [Act.put, List.setIfInBounds_toArray, List.set_cons_zero, List.set_cons_succ]
  refine wpAnyH_take (i := 1) (v := .agg #[.int .i64 (j : Int), .int .i64 d, .slice ak (kidsL ss j).length ck, .int .i64 ss[j].kind, .int .i64 ss[j].parent, .string ss[j].name, .int .i64 ss[j].arg, .slice ac ss[j].cond.length cc, .slice ae ss[j].expr.length ce]) rfl (by kernel_rfl) (by kernel_rfl) (by kernel_rfl) (fun _ _ _ h => h) (Or.inl ⟨by rfl, by intro w hSw; (try dsimp only at hSw); have m := fun i => PBlk.cell hSw i; have m0 := m 0; have m1 := m 1; have m2 := m 2; have m3 := m 3; have m4 := m 4; have m5 := m 5; have m6 := m 6; have m7 := m 7; have m8 := m 8; clear m hSw; go_simp⟩) (by assumption) ?_
  simp only [Act.put, List.setIfInBounds_toArray, List.set_cons_zero, List.set_cons_succ]
  refine wpAnyH_take (i := 3) (v := .pointer (some ⟨R, 0, none⟩)) rfl (by kernel_rfl) (by kernel_rfl) (by kernel_rfl) (fun _ _ _ h => h) (Or.inl ⟨by rfl, by intro w hSw; (try dsimp only at hSw); go_simp⟩) (by assumption) ?_
  simp only [Act.put, List.setIfInBounds_toArray, List.set_cons_zero, List.set_cons_succ]
  refine wpAnyH_take (i := 4) (v := .agg #[.int .i64 (j : Int), .int .i64 d, .slice ak (kidsL ss j).length ck, .int .i64 ss[j].kind, .int .i64 ss[j].parent, .string ss[j].name, .int .i64 ss[j].arg, .slice ac ss[j].cond.length cc, .slice ae ss[j].expr.length ce]) rfl (by kernel_rfl) (by kernel_rfl) (by kernel_rfl) (fun _ _ _ h => h) (Or.inl ⟨by rfl, by intro w hSw; (try dsimp only at hSw); have m := fun i => PBlk.cell hSw i; have m0 := m 0; have m1 := m 1; have m2 := m 2; have m3 := m 3; have m4 := m 4; have m5 := m 5; have m6 := m 6; have m7 := m 7; have m8 := m 8; clear m hSw; go_simp⟩) (by assumption) ?_
  simp only [Act.put, List.setIfInBounds_toArray, List.set_cons_zero, List.set_cons_succ]
  refine wpAnyH_ready (rs := [2]) (by kernel_rfl) (by simp) ?_
  refine AllReadyH.cons rfl (fun K hK => ?_) AllReadyH.nil
  go_simp
  go_at_call 132
  refine (HC.out 1 _ hB0).mono ?_
  rintro e w1 ⟨rfl, hb1⟩
  have hB1 := hB0.trans (hb1.mono hB0.size)
  have HK1 := hid (HK0d.out.below hb1)
  clear hb1
  go_wp2_with fail
  refine hK.out _ _ HK1.out (fun hHeld => ?_)
  clear hK K
  try simp only [Act.put, List.setIfInBounds_toArray, List.set_cons_zero, List.set_cons_succ]
  refine wpAnyH_ready (rs := [5]) (by kernel_rfl) (by simp) ?_
  refine AllReadyH.cons rfl (fun K hK => ?_) AllReadyH.nil
  go_simp
  go_at_call 132
  refine (HC.out 2 _ hB1).mono ?_
  rintro e w2 ⟨rfl, hb2⟩
  have hB2 := hB1.trans (hb2.mono hB1.size)
  have HK2 := hid (HK1.out.below hb2)
  clear hb2
  go_wp2_with fail
  refine hK.out _ _ HK2.out (fun hHeld => ?_)
  clear hK K
  try simp only [Act.put, List.setIfInBounds_toArray, List.set_cons_zero, List.set_cons_succ]
  refine wpAnyH_take (i := 6) (v := .int .i64 (cntK s.acts (kidsL ss j) 1 : Int)) rfl (by kernel_rfl) (by kernel_rfl) (by kernel_rfl) (fun _ _ _ h => h) (Or.inl ⟨by rfl, by intro w hSw; (try dsimp only at hSw); go_simp⟩) (by assumption) ?_
  simp only [Act.put, List.setIfInBounds_toArray, List.set_cons_zero, List.set_cons_succ]
  refine wpAnyH_take (i := 7) (v := .int .i64 (cntK s.acts (kidsL ss j) 2 : Int)) rfl (by kernel_rfl) (by kernel_rfl) (by kernel_rfl) (fun _ _ _ h => h) (Or.inl ⟨by rfl, by intro w hSw; (try dsimp only at hSw); go_simp⟩) (by assumption) ?_
  simp only [Act.put, List.setIfInBounds_toArray, List.set_cons_zero, List.set_cons_succ]
  refine wpAnyH_done (by kernel_rfl) ?_ _
  clear HC HK0d HK1
  have d0 : w2.cell? ⟨w.heap.size, 0, none⟩ = _ := HK2.out.cell 0
  have d2 : w2.cell? ⟨w.heap.size, 2, none⟩ = _ := HK2.out.cell 2
  have d3 : w2.cell? ⟨w.heap.size, 3, none⟩ = _ := HK2.out.cell 3
  have HON := hid (HO.out _ hB2)
  clear HK2 HO hHeld hB0 hB1
  generalize cntK s.acts (kidsL ss j) 1 = on at *
  generalize cntK s.acts (kidsL ss j) 2 = ov at *
  generalize (kidsL ss j).length = n at *
  by_cases h0 : n = 0
  · have b0 : ((n : Int) == 0) = true := by simp [h0]
    have HX : Hid (res = true) := hid (by rw [HV.out, if_pos h0])
    clear HV h0
    go_wp2
    go_ret
    exact ⟨by rw [HX.out]; rfl, hB2⟩
  have b0 : ((n : Int) == 0) = false := by simp [h0]
  rw [if_neg h0] at HV
  clear h0
  by_cases h1 : s.acts j = 1
  · have e1 : (s.acts j == 1) = true := by simp [h1]
    rw [e1] at HON
    rw [if_neg (by simp [h1])] at HV
    clear e1 h1
    by_cases h4 : ss[j].kind = 4
    · have b4 : (ss[j].kind == 4) = true := by simp [h4]
      rw [if_pos h4] at HV
      clear h4
      by_cases hp : 0 < on
      · have q1 : (0 : Int) < (on : Int) := by omega
        have HX : Hid (res = (((on : Int) + (ov : Int)) == (n : Int))) := hid (by
          rw [HV.out, decide_eq_true hp, Bool.true_and, Bool.eq_iff_iff]
          simp
          omega)
        clear HV hp
        go_wp2_with (go_at_call 53; refine HON.out.mono ?_; rintro e w3 ⟨rfl, hw3⟩; replace hw3 := hw3.symm; subst hw3)
        go_ret
        exact ⟨by rw [HX.out]; rfl, hB2⟩
      · have q1 : ¬ (0 : Int) < (on : Int) := by omega
        have HX : Hid (res = false) := hid (by rw [HV.out, decide_eq_false hp]; rfl)
        clear HV hp
        go_wp2_with (go_at_call 53; refine HON.out.mono ?_; rintro e w3 ⟨rfl, hw3⟩; replace hw3 := hw3.symm; subst hw3)
        go_ret
        exact ⟨by rw [HX.out]; rfl, hB2⟩
    · have b4 : (ss[j].kind == 4) = false := by simp [h4]
      rw [if_neg h4] at HV
      clear h4
      by_cases hp : on = 1
      · have q1 : ((on : Int) == 1) = true := by simp [hp]
        have HX : Hid (res = ((ov : Int) == 0)) := hid (by rw [HV.out, hp, Bool.eq_iff_iff]; simp)
        clear HV hp
        go_wp2_with (go_at_call 53; refine HON.out.mono ?_; rintro e w3 ⟨rfl, hw3⟩; replace hw3 := hw3.symm; subst hw3)
        go_ret
        exact ⟨by rw [HX.out]; rfl, hB2⟩
      · have q1 : ((on : Int) == 1) = false := beq_eq_false_iff_ne.2 (by omega)
        have HX : Hid (res = false) := hid (by rw [HV.out, beq_eq_false_iff_ne.2 hp]; rfl)
        clear HV hp
        go_wp2_with (go_at_call 53; refine HON.out.mono ?_; rintro e w3 ⟨rfl, hw3⟩; replace hw3 := hw3.symm; subst hw3)
        go_ret
        exact ⟨by rw [HX.out]; rfl, hB2⟩
  · have e1 : (s.acts j == 1) = false := by simp [h1]
    rw [e1] at HON
    rw [if_pos h1] at HV
    clear e1 h1
    by_cases hp : on = 0
    · have q1 : ((on : Int) == 0) = true := by simp [hp]
      have HX : Hid (res = ((ov : Int) == 0)) := hid (by rw [HV.out, hp, Bool.eq_iff_iff]; simp)
      clear HV hp
      go_wp2_with (go_at_call 53; refine HON.out.mono ?_; rintro e w3 ⟨rfl, hw3⟩; replace hw3 := hw3.symm; subst hw3)
      go_ret
      exact ⟨by rw [HX.out]; rfl, hB2⟩
    · have q1 : ((on : Int) == 0) = false := beq_eq_false_iff_ne.2 (by omega)
      have HX : Hid (res = false) := hid (by rw [HV.out, beq_eq_false_iff_ne.2 hp]; rfl)
      clear HV hp
      go_wp2_with (go_at_call 53; refine HON.out.mono ?_; rintro e w3 ⟨rfl, hw3⟩; replace hw3 := hw3.symm; subst hw3)
      go_ret
      exact ⟨by rw [HX.out]; rfl, hB2⟩
end Kc
end Go.Proofs.YtpgbjpfpgbjbeaaGreatDoor
