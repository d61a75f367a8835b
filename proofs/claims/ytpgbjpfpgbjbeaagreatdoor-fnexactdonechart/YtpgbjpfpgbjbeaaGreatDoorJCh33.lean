/- Laid together: KtA, KtB. -/
import Derived.Test.YtpgbjpfpgbjbeaaGreatDoorJCh26
import Derived.Test.YtpgbjpfpgbjbeaaGreatDoorJCh19
import Derived.Test.YtpgbjpfpgbjbeaaGreatDoorJCh24
import Derived.Test.YtpgbjpfpgbjbeaaGreatDoorJCh14
import Derived.Deep.RegionHeld3
import Derived.Deep.Cut
/- A chart under way in the specification's memory: a struct and three rows, pointed at. -/
namespace Go.Proofs.YtpgbjpfpgbjbeaaGreatDoor
open Go.RowKit Go.Deep
set_option linter.unusedVariables false
set_option linter.unusedSimpArgs false
namespace Kt
open Ex (inR evalCode evalVal vFault hid)
open St (StepD)
open Pf
open Kc
/-- A row of numbers at the beginning of a block. -/
structure Row (w : World) (b n ca : Nat) (f : Nat → Int) : Prop where
  ex : ∃ cur : Array Value, w.heap[b]? = some (.cells cur 2) ∧ cur.size = ca ∧ ∀ i, i < n → cur[i]? = some (.int .i64 (f i))
  le : n ≤ ca
  mx : ca ≤ maxLen
theorem Row.kept {w w' : World} {b n ca : Nat} {f : Nat → Int} (h : Row w b n ca f) (hb : w'.heap[b]? = w.heap[b]?) : Row w' b n ca f := by
  obtain ⟨cur, h1, h2⟩ := h.ex
  exact ⟨⟨cur, hb.trans h1, h2⟩, h.le, h.mx⟩
theorem Row.lt {w : World} {b n ca : Nat} {f : Nat → Int} (h : Row w b n ca f) : b < w.heap.size := by
  obtain ⟨cur, h1, _⟩ := h.ex
  exact (Array.getElem?_eq_some_iff.1 h1).1
theorem Row.cell {w : World} {b n ca : Nat} {f : Nat → Int} (h : Row w b n ca f) {i : Nat} (hi : i < n) : w.cell? ⟨b, i, none⟩ = some (.int .i64 (f i)) := by
  obtain ⟨cur, h1, _, h3⟩ := h.ex
  rw [← h3 i hi]
  simp [World.cell?, h1]
theorem Row.free {w : World} {b n ca : Nat} {f : Nat → Int} (h : Row w b n ca f) (i : Nat) : w.frozen? ⟨b, i, none⟩ = false := by
  obtain ⟨cur, h1, _⟩ := h.ex
  simp [World.frozen?, h1]
theorem Row.set {w : World} {b n ca : Nat} {f f' : Nat → Int} (h : Row w b n ca f) {i : Nat} (v : Int) (hi : i < n) (hf : ∀ j, j < n → f' j = if j = i then v else f j) : Row (w.setCell ⟨b, i, none⟩ (.int .i64 v)) b n ca f' := by
  obtain ⟨cur, h1, h2, h3⟩ := h.ex
  have hle := h.le
  refine ⟨⟨cur.setIfInBounds i (.int .i64 v), Ch.blk_set h1 _, by simp [h2], fun j hj => ?_⟩, h.le, h.mx⟩
  rw [Array.getElem?_setIfInBounds, hf j hj]
  by_cases e : i = j
  · subst e; rw [if_pos rfl, if_pos (by omega), if_pos rfl]
  · rw [if_neg e, if_neg (fun h => e h.symm), h3 j hj]
theorem Row.congr {w : World} {b n ca : Nat} {f f' : Nat → Int} (h : Row w b n ca f) (hf : ∀ j, j < n → f' j = f j) : Row w b n ca f' := by
  obtain ⟨cur, h1, h2, h3⟩ := h.ex
  exact ⟨⟨cur, h1, h2, fun j hj => by rw [hf j hj]; exact h3 j hj⟩, h.le, h.mx⟩
theorem Row.nu {w : World} {b n ca : Nat} {f : Nat → Int} (h : Row w b n ca f) {l : List Int} (hl : l.length = n) (hf : ∀ i, i < n → f i = l.getD i 0) (B : Nat) (hB : B ≤ b) : Nu.At w B (.slice (some ⟨b, 0, none⟩) n ca) l := by
  subst hl
  refine ⟨_, ca, rfl, h.le, h.mx, .inr ⟨b, 0, rfl, hB, h.lt, fun i hi => ?_⟩⟩
  rw [Nat.zero_add, h.cell hi, hf i hi, List.getD_eq_getElem?_getD, List.getElem?_eq_getElem hi]
  rfl
/-- Where the parts lie. -/
structure Pos where
  R : Nat
  A : Nat
  D : Nat
  V : Nat
  ca : Nat
  cd : Nat
  cv : Nat
def vf (s : CS) : Nat → Int := fun i => s.vars.getD i 0
structure SAt (wg w : World) (P : Pos) (v : Value) (ss : List StepD) (s : CS) : Prop where
  st : St.At wg 0 v ss
  bel : Below wg.heap.size wg w
  oR : wg.heap.size ≤ P.R
  oA : wg.heap.size ≤ P.A
  oD : wg.heap.size ≤ P.D
  oV : wg.heap.size ≤ P.V
  rA : P.R ≠ P.A
  rD : P.R ≠ P.D
  rV : P.R ≠ P.V
  aD : P.A ≠ P.D
  aV : P.A ≠ P.V
  dV : P.D ≠ P.V
  blk : w.heap[P.R]? = some (.cells #[.int .i64 s.status, .int .i64 s.now, .slice (some ⟨P.V, 0, none⟩) 4 P.cv, .slice (some ⟨P.A, 0, none⟩) ss.length P.ca, .slice (some ⟨P.D, 0, none⟩) ss.length P.cd] 26)
  ra : Row w P.A ss.length P.ca s.acts
  rd : Row w P.D ss.length P.cd s.dues
  rv : Row w P.V 4 P.cv (vf s)
  len : s.vars.length = 4
theorem SAt.below {wg w w' : World} {P : Pos} {v : Value} {ss : List StepD} {s : CS} (h : SAt wg w P v ss s) (hb : Below w.heap.size w w') : SAt wg w' P v ss s :=
  { h with bel := h.bel.trans (hb.mono h.bel.size), blk := (hb.block _ (Ch.blk_lt h.blk)).trans h.blk, ra := h.ra.kept (hb.block _ h.ra.lt), rd := h.rd.kept (hb.block _ h.rd.lt), rv := h.rv.kept (hb.block _ h.rv.lt) }
/-- Only the chart's own blocks are written, and what is new. -/
structure Ride (P : Pos) (w w' : World) : Prop where
  os : w'.os = w.os
  tape : w'.tape = w.tape
  output : w'.output = w.output
  size : w.heap.size ≤ w'.heap.size
  block : ∀ b, b < w.heap.size → b ≠ P.R → b ≠ P.A → b ≠ P.D → b ≠ P.V → w'.heap[b]? = w.heap[b]?
theorem Ride.of_below {P : Pos} {w w' : World} (h : Below w.heap.size w w') : Ride P w w' := ⟨h.os, h.tape, h.output, h.size, fun b hb _ _ _ _ => h.block b hb⟩
theorem Ride.refl (P : Pos) (w : World) : Ride P w w := ⟨rfl, rfl, rfl, Nat.le_refl _, fun _ _ _ _ _ _ => rfl⟩
theorem Ride.trans {P : Pos} {a b c : World} (h : Ride P a b) (h' : Ride P b c) : Ride P a c :=
  ⟨h'.os.trans h.os, h'.tape.trans h.tape, h'.output.trans h.output, Nat.le_trans h.size h'.size, fun k hk h1 h2 h3 h4 => (h'.block k (Nat.lt_of_lt_of_le hk h.size) h1 h2 h3 h4).trans (h.block k hk h1 h2 h3 h4)⟩
theorem Ride.set {P : Pos} (w : World) (g o : Nat) (v : Value) (hg : g = P.R ∨ g = P.A ∨ g = P.D ∨ g = P.V) : Ride P w (w.setCell ⟨g, o, none⟩ v) :=
  ⟨rfl, rfl, rfl, by simp [World.setCell], fun b hb h1 h2 h3 h4 => Below.heap_setCell _ _ _ _ (by dsimp only; omega)⟩
/-- What is old stays. -/
theorem Ride.below {P : Pos} {wg w w' : World} {v : Value} {ss : List StepD} {s : CS} (h : Ride P w w') (hs : SAt wg w P v ss s) : Below wg.heap.size wg w' :=
  ⟨h.os.trans hs.bel.os, h.tape.trans hs.bel.tape, h.output.trans hs.bel.output, Nat.le_trans hs.bel.size h.size, fun b hb => (h.block b (Nat.lt_of_lt_of_le hb hs.bel.size) (by have := hs.oR; omega) (by have := hs.oA; omega) (by have := hs.oD; omega) (by have := hs.oV; omega)).trans (hs.bel.block b hb)⟩
theorem SAt.c0 {wg w : World} {P : Pos} {v : Value} {ss : List StepD} {s : CS} (h : SAt wg w P v ss s) : w.cell? ⟨P.R, 0, none⟩ = some (.int .i64 s.status) := Ch.blk_cell h.blk 0
theorem SAt.c1 {wg w : World} {P : Pos} {v : Value} {ss : List StepD} {s : CS} (h : SAt wg w P v ss s) : w.cell? ⟨P.R, 1, none⟩ = some (.int .i64 s.now) := Ch.blk_cell h.blk 1
theorem SAt.c2 {wg w : World} {P : Pos} {v : Value} {ss : List StepD} {s : CS} (h : SAt wg w P v ss s) : w.cell? ⟨P.R, 2, none⟩ = some (.slice (some ⟨P.V, 0, none⟩) 4 P.cv) := Ch.blk_cell h.blk 2
theorem SAt.c3 {wg w : World} {P : Pos} {v : Value} {ss : List StepD} {s : CS} (h : SAt wg w P v ss s) : w.cell? ⟨P.R, 3, none⟩ = some (.slice (some ⟨P.A, 0, none⟩) ss.length P.ca) := Ch.blk_cell h.blk 3
theorem SAt.c4 {wg w : World} {P : Pos} {v : Value} {ss : List StepD} {s : CS} (h : SAt wg w P v ss s) : w.cell? ⟨P.R, 4, none⟩ = some (.slice (some ⟨P.D, 0, none⟩) ss.length P.cd) := Ch.blk_cell h.blk 4
theorem hset {w : World} {g o b : Nat} {v : Value} (h : b ≠ g) : (w.setCell ⟨g, o, none⟩ v).heap[b]? = w.heap[b]? := Below.heap_setCell _ _ _ _ h
theorem SAt.setA {wg w : World} {P : Pos} {v : Value} {ss : List StepD} {s : CS} (h : SAt wg w P v ss s) {k : Nat} (hk : k < ss.length) (x : Int) : SAt wg (w.setCell ⟨P.A, k, none⟩ (.int .i64 x)) P v ss (Kc.act s k x) :=
  { h with bel := h.bel.setCell (p := ⟨P.A, k, none⟩) h.oA _, blk := (hset h.rA).trans h.blk, ra := h.ra.set x hk (fun j _ => rfl), rd := h.rd.kept (hset (Ne.symm h.aD)), rv := h.rv.kept (hset (Ne.symm h.aV)) }
theorem SAt.setD {wg w : World} {P : Pos} {v : Value} {ss : List StepD} {s : CS} (h : SAt wg w P v ss s) {k : Nat} (hk : k < ss.length) (x : Int) : SAt wg (w.setCell ⟨P.D, k, none⟩ (.int .i64 x)) P v ss (Kc.due s k x) :=
  { h with bel := h.bel.setCell (p := ⟨P.D, k, none⟩) h.oD _, blk := (hset h.rD).trans h.blk, ra := h.ra.kept (hset h.aD), rd := h.rd.set x hk (fun j _ => rfl), rv := h.rv.kept (hset (Ne.symm h.dV)) }
theorem SAt.setV {wg w : World} {P : Pos} {v : Value} {ss : List StepD} {s : CS} (h : SAt wg w P v ss s) {k : Nat} (hk : k < 4) (x : Int) : SAt wg (w.setCell ⟨P.V, k, none⟩ (.int .i64 x)) P v ss (Kc.setV s k x) :=
  { h with
    bel := h.bel.setCell (p := ⟨P.V, k, none⟩) h.oV _
    blk := (hset h.rV).trans h.blk
    ra := h.ra.kept (hset h.aV)
    rd := h.rd.kept (hset h.dV)
    rv := h.rv.set x hk (fun j hj => by
      show (s.vars.set k x).getD j 0 = if j = k then x else s.vars.getD j 0
      rw [List.getD_eq_getElem?_getD, List.getD_eq_getElem?_getD, List.getElem?_set]
      have hl := h.len
      by_cases e : k = j
      · subst e; rw [if_pos rfl, if_pos (by omega), if_pos rfl]; rfl
      · rw [if_neg e, if_neg (fun h => e h.symm)])
    len := by show (s.vars.set k x).length = 4; rw [List.length_set]; exact h.len }
theorem SAt.setS {wg w : World} {P : Pos} {v : Value} {ss : List StepD} {s : CS} (h : SAt wg w P v ss s) (x : Int) : SAt wg (w.setCell ⟨P.R, 0, none⟩ (.int .i64 x)) P v ss { s with status := x } :=
  { h with
    bel := h.bel.setCell (p := ⟨P.R, 0, none⟩) h.oR _
    blk := by have := Ch.blk_set (i := 0) h.blk (.int .i64 x); simpa using this
    ra := h.ra.kept (hset (Ne.symm h.rA))
    rd := h.rd.kept (hset (Ne.symm h.rD))
    rv := h.rv.kept (hset (Ne.symm h.rV)) }
theorem SAt.setN {wg w : World} {P : Pos} {v : Value} {ss : List StepD} {s : CS} (h : SAt wg w P v ss s) (x : Int) : SAt wg (w.setCell ⟨P.R, 1, none⟩ (.int .i64 x)) P v ss { s with now := x } :=
  { h with
    bel := h.bel.setCell (p := ⟨P.R, 1, none⟩) h.oR _
    blk := by have := Ch.blk_set (i := 1) h.blk (.int .i64 x); simpa using this
    ra := h.ra.kept (hset (Ne.symm h.rA))
    rd := h.rd.kept (hset (Ne.symm h.rD))
    rv := h.rv.kept (hset (Ne.symm h.rV)) }
/-- The same chart where only places that there are count. -/
theorem SAt.congr {wg w : World} {P : Pos} {v : Value} {ss : List StepD} {s s' : CS} (h : SAt wg w P v ss s) (h1 : s'.status = s.status) (h2 : s'.now = s.now) (h3 : s'.vars = s.vars) (h4 : ∀ i, i < ss.length → s'.acts i = s.acts i) (h5 : ∀ i, i < ss.length → s'.dues i = s.dues i) : SAt wg w P v ss s' :=
  { h with
    blk := by rw [h1, h2]; exact h.blk
    ra := h.ra.congr h4
    rd := h.rd.congr h5
    rv := h.rv.congr (fun j _ => by show s'.vars.getD j 0 = s.vars.getD j 0; rw [h3])
    len := by rw [h3]; exact h.len }
theorem SAt.proc {wg w : World} {P : Pos} {v : Value} {ss : List StepD} {s : CS} (h : SAt wg w P v ss s) : St.At w 0 v ss := h.st.below h.bel
theorem SAt.vars {wg w : World} {P : Pos} {v : Value} {ss : List StepD} {s : CS} (h : SAt wg w P v ss s) : Nu.At w 0 (.slice (some ⟨P.V, 0, none⟩) 4 P.cv) s.vars := h.rv.nu h.len (fun i _ => rfl) 0 (Nat.zero_le _)
end Kt
end Go.Proofs.YtpgbjpfpgbjbeaaGreatDoor
/- What the specification does to a chart: idle, ended; what it asks. -/
namespace Go.Proofs.YtpgbjpfpgbjbeaaGreatDoor
open Go.RowKit Go.Deep
set_option linter.unusedVariables false
set_option linter.unusedSimpArgs false
namespace Kt
open Ex (inR evalCode evalVal vFault hid)
open St (StepD)
open Pf
open Kc (CS upd zer endOf stopped idle pick aft allOver kid go mE mO Ok kid_mem kid_lt)
/-- What a call leaves that answers nothing. -/
def TPost (wg : World) (P : Pos) (v : Value) (ss : List StepD) (s' : CS) (w : World) (e : Ending) (w' : World) : Prop := e = .returned (.tuple #[]) ∧ SAt wg w' P v ss s' ∧ Ride P w w'
theorem kids_at {w : World} {v : Value} {B : Nat} {l : List Nat} (ho : w.ownsRow B 2 1 v l.length (Pt.kidVals l)) (h0 : 0 < l.length) : ∃ bk cap, v = .slice (some ⟨bk, 0, none⟩) l.length cap ∧ bk < w.heap.size ∧ B ≤ bk ∧ ∀ i (h : i < l.length), w.cell? ⟨bk, i, none⟩ = some (.int .i64 (l[i] : Int)) := by
  obtain ⟨_, ⟨_, h1⟩ | ⟨g, cap, cur, rfl, hbg, hg, hle, hm, hs, hcur⟩⟩ := ho
  · omega
  · refine ⟨g, cap, rfl, (Array.getElem?_eq_some_iff.1 hg).1, hbg, fun i hi => ?_⟩
    have h2 : (Pt.kidVals l)[i]? = some (.int .i64 (l[i] : Int)) := by simp [Pt.kidVals, hi]
    rw [← hcur, List.getElem?_take, if_pos (by omega)] at h2
    simp only [World.cell?, hg, Option.isSome_none, Bool.false_eq_true, if_false]
    simpa using h2
theorem own_slice {w : World} {v : Value} {B : Nat} {l : List Nat} (ho : w.ownsRow B 2 1 v l.length (Pt.kidVals l)) : ∃ a cap, v = .slice a l.length cap := by
  obtain ⟨_, ⟨h0, h1⟩ | ⟨g, cap, cur, rfl, _⟩⟩ := ho
  · exact ⟨none, 0, by rw [h0, h1]⟩
  · exact ⟨_, _, rfl⟩
theorem own_below {w w' : World} {v : Value} {B n : Nat} {l : List Value} (ho : w.ownsRow B 2 1 v n l) (hb : Below w.heap.size w w') : w'.ownsRow B 2 1 v n l := by
  obtain ⟨h0, h | ⟨g, cap, cur, rfl, hbg, hg, hle, hm, hs, hcur⟩⟩ := ho
  · exact ⟨h0, .inl h⟩
  · exact ⟨h0, .inr ⟨g, cap, cur, rfl, hbg, (hb.block g (Array.getElem?_eq_some_iff.1 hg).1).trans hg, hle, hm, hs, hcur⟩⟩
/-- The cells of a row that is newer than the chart's blocks. -/
theorem Ride.cell {P : Pos} {wg w w' : World} {v : Value} {ss : List StepD} {s : CS} (h : Ride P w w') {b o : Nat} {x : Value} (hb : b < w.heap.size) (hn : b ≠ P.R ∧ b ≠ P.A ∧ b ≠ P.D ∧ b ≠ P.V) (hc : w.cell? ⟨b, o, none⟩ = some x) : w'.cell? ⟨b, o, none⟩ = some x := by
  simp only [World.cell?] at hc ⊢
  rw [h.block b hb hn.1 hn.2.1 hn.2.2.1 hn.2.2.2]
  exact hc
theorem SAt.lts {wg w : World} {P : Pos} {v : Value} {ss : List StepD} {s : CS} (h : SAt wg w P v ss s) : P.R < w.heap.size ∧ P.A < w.heap.size ∧ P.D < w.heap.size ∧ P.V < w.heap.size := ⟨Ch.blk_lt h.blk, h.ra.lt, h.rd.lt, h.rv.lt⟩
/-- The first i places from k on idle. -/
def idleTo (s : CS) (k e : Nat) : CS := { s with acts := zer s.acts k e, dues := zer s.dues k e }
theorem under_at (ss : List StepD) (k : Nat) : ∀ i (h : i < (underN ss k).length), (underN ss k)[i] = k + i := by
  obtain ⟨m, hm⟩ := under_range' ss k
  intro i hi
  simp only [hm, List.getElem_range']
  omega
theorem under_lt {ss : List StepD} {k : Nat} (hk : k < ss.length) {i : Nat} (h : i < (underN ss k).length) : k + i < ss.length := by
  have := (Kc.end_of hk).le
  unfold endOf at this
  omega
theorem idle_step {s : CS} {k i : Nat} : Kc.due (Kc.act (idleTo s k (k + i)) (k + i) 0) (k + i) 0 = idleTo s k (k + (i + 1)) := by
  have e : ∀ f : Nat → Int, upd (zer f k (k + i)) (k + i) 0 = zer f k (k + (i + 1)) := fun f => by
    funext j
    unfold upd zer
    by_cases h1 : j = k + i
    · rw [if_pos h1, if_pos (by omega)]
    · rw [if_neg h1]
      by_cases h2 : k ≤ j ∧ j < k + i
      · rw [if_pos h2, if_pos (by omega)]
      · rw [if_neg h2, if_neg (by omega)]
  unfold Kc.due Kc.act idleTo
  simp only [e]
theorem idle_zero {s : CS} {k : Nat} : idleTo s k (k + 0) = s := by
  have e : ∀ f : Nat → Int, zer f k (k + 0) = f := fun f => by
    funext j
    unfold zer
    rw [if_neg (by omega)]
  unfold idleTo
  rw [e, e]
set_option maxRecDepth 100000 in
set_option maxHeartbeats 8000000 in
theorem specIdle (wg w : World) (P : Pos) (v : Value) (ss : List StepD) (s : CS) (k : Nat) (hp : pFault ss = 0) (hk : k < ss.length) (h : SAt wg w P v ss s) :
    Calls Tryz.prog 78 #[v, .pointer (some ⟨P.R, 0, none⟩), .int .i64 (k : Int)] w (TPost wg P v ss (idle ss s k) w) := by
  have hl : ss.length ≤ 24 := by have := (of_p hp).1; omega
  have HU := hid (specUnder 0 ss v k w hl hk (of_p hp).2.1 h.proc)
  obtain ⟨a, cap, rfl⟩ := h.st.slice
  have HS := hid h
  have HLT := hid (fun i => under_lt hk (i := i))
  have HAT := hid (under_at ss k)
  have HEND : Hid (idle ss s k = idleTo s k (k + (underN ss k).length)) := hid rfl
  have hlu : (underN ss k).length ≤ 24 := by have := (Kc.end_of hk).le; unfold endOf at this; omega
  clear h
  unfold TPost
  go_enter Tryz.func78, Tryz.ntmps78
  go_wp2_with fail
  refine HU.out.mono ?_
  rintro e w1 ⟨⟨u, rfl, ho⟩, hb1⟩
  obtain ⟨au, cu, rfl⟩ := own_slice ho
  have HO := hid ho
  have HB1 := hid hb1
  have HS1 := hid (HS.out.below hb1)
  have hlts := HS.out.lts
  clear ho hb1 HU
  generalize underN ss k = us at *
  go_wp2
  go_loopw [7] (fun x wr => ∃ i : Nat, x = .int .i64 i ∧ i ≤ us.length ∧ Hid (SAt wg wr P (.slice a ss.length cap) ss (idleTo s k (k + i))) ∧ Hid (Ride P w1 wr)) (fun x _ => us.length - (intOf x).toNat)
  case atStart => exact ⟨0, rfl, Nat.zero_le _, hid (by rw [idle_zero]; exact HS1.out), hid (Ride.refl _ _)⟩
  case round =>
    obtain ⟨i, rfl, hi, HSI, HRI⟩ := hrel
    by_cases hlt : i < us.length
    · obtain ⟨bk, cap', e, hbk, hBk, hcell⟩ := kids_at HO.out (by omega)
      cases e
      have c1 := hcell i hlt
      rw [HAT.out i hlt] at c1
      have hne : bk ≠ P.R ∧ bk ≠ P.A ∧ bk ≠ P.D ∧ bk ≠ P.V := by omega
      have c2 := HRI.out.cell (wg := wg) (v := .slice a ss.length cap) (ss := ss) (s := s) hbk hne c1
      have hkl := HLT.out i hlt
      have q1 : (i : Int) < (us.length : Int) := by omega
      have q2 : (0 : Int) ≤ ((k + i : Nat) : Int) := by omega
      have q3 : ((k + i : Nat) : Int) < (ss.length : Int) := by omega
      have HN := hid (idle_step (s := s) (k := k) (i := i))
      have m3 := HSI.out.c3
      have mA := HSI.out.ra.cell hkl
      have fA := HSI.out.ra.free (k + i)
      obtain ⟨wA, eA⟩ : ∃ wA, wA = (wr.setCell ⟨P.A, k + i, none⟩ (.int .i64 0)).drew := ⟨_, rfl⟩
      have HSA := hid ((HSI.out.setA hkl 0).below (Below.refl _ _).drew)
      rw [← eA] at HSA
      have HRA : Hid (Ride P wr wA) := hid (by rw [eA]; exact (Ride.set _ _ _ _ (by simp)).trans (Ride.of_below (Below.refl _ _).drew))
      have HEA := hid eA
      clear hcell eA
      generalize hki : k + i = ki at *
      go_wp2
      go_region
      rw [← HEA.out]
      have m4 := HSA.out.c4
      have mD := HSA.out.rd.cell hkl
      have fD := HSA.out.rd.free ki
      have c3 := HRA.out.cell (wg := wg) (v := .slice a ss.length cap) (ss := ss) (s := s) (Nat.lt_of_lt_of_le hbk HRI.out.size) hne c2
      have HSD := hid ((HSA.out.setD hkl 0).below (Below.refl _ _).drew)
      have HRD : Hid (Ride P wA (wA.setCell ⟨P.D, ki, none⟩ (.int .i64 0)).drew) := hid ((Ride.set _ _ _ _ (by simp)).trans (Ride.of_below (Below.refl _ _).drew))
      rw [HN.out] at HSD
      clear m3 mA fA c1 c2 HEA
      go_wp2
      go_region
      go_wp2
      exact ⟨⟨i + 1, by simp, by omega, HSD, hid ((HRI.out.trans HRA.out).trans HRD.out)⟩, by simp [intOf]; omega⟩
    · have hie : i = us.length := by omega
      rw [hie, ← HEND.out] at HSI
      have q1 : ¬ (i : Int) < (us.length : Int) := by omega
      clear hie
      go_wp2
      go_end0
      exact ⟨rfl, HSI.out, (Ride.of_below HB1.out).trans HRI.out⟩
end Kt
end Go.Proofs.YtpgbjpfpgbjbeaaGreatDoor
