/- Laid together: NkA, SkA. -/
import Derived.Test.YtccklgopcjilcaaGreatDoorJNW12
import Derived.Test.YtccklgopcjilcaaGreatDoorJNW45
import Derived.Deep.RegionHeld3
/- The law's marks in rows of nodes that a function has made itself, and whether they hold. -/
namespace Go.Proofs.YtccklgopcjilcaaGreatDoor
open Go.RowKit
set_option linter.unusedVariables false
namespace Nk
open Ex (hid nval nvals nvals_len nvals_snoc nvals_get)
open Nd (NodeD)
open Nst (own)
open Mk (mt markText markText')
/-- Nothing has turned but blocks between the two. -/
structure Amid (w w' : World) (B C : Nat) : Prop where
  os : w'.os = w.os
  tape : w'.tape = w.tape
  output : w'.output = w.output
  size : w.heap.size ≤ w'.heap.size
  block : ∀ b, b < w.heap.size → b < B ∨ C ≤ b → w'.heap[b]? = w.heap[b]?
theorem Amid.refl (w : World) (B C : Nat) : Amid w w B C := ⟨rfl, rfl, rfl, Nat.le_refl _, fun _ _ _ => rfl⟩
theorem Amid.trans {w w1 w2 : World} {B C : Nat} (h : Amid w w1 B C) (h2 : Amid w1 w2 B C) : Amid w w2 B C :=
  ⟨h2.os.trans h.os, h2.tape.trans h.tape, h2.output.trans h.output, Nat.le_trans h.size h2.size, fun b hb ho => (h2.block b (Nat.lt_of_lt_of_le hb h.size) ho).trans (h.block b hb ho)⟩
theorem Amid.of_below {w w' : World} {B C : Nat} (h : Below w.heap.size w w') : Amid w w' B C := ⟨h.os, h.tape, h.output, h.size, fun b hb _ => h.block b hb⟩
theorem Amid.set (w : World) {B C g : Nat} (c : Nat) (u : Value) (h1 : B ≤ g) (h2 : g < C) : Amid w (w.setCell ⟨g, c, none⟩ u) B C :=
  ⟨rfl, rfl, rfl, by simp [World.setCell], fun b hb ho => Below.heap_setCell _ _ _ _ (by dsimp only; omega)⟩
theorem Amid.mono {w w' : World} {B B' C C' : Nat} (h : Amid w w' B C) (h1 : B' ≤ B) (h2 : C ≤ C') : Amid w w' B' C' := ⟨h.os, h.tape, h.output, h.size, fun b hb ho => h.block b hb (by omega)⟩
theorem amid_grown {w w' : World} {row : Option Nat} {B C : Nat} (h : w.grownBy w' row) (hr : ∀ b, row = some b → B ≤ b ∧ b < C) : Amid w w' B C :=
  ⟨h.os, h.tape, h.output, h.size, fun b hb ho => h.block b hb (fun e => by have := hr b e.symm; omega)⟩
theorem amid_cell {w w' : World} {B C b o : Nat} {v : Value} (h : Amid w w' B C) (hb : b < B ∨ C ≤ b) (hc : w.cell? ⟨b, o, none⟩ = some v) : w'.cell? ⟨b, o, none⟩ = some v := by
  have hl : b < w.heap.size := by
    rcases Nat.lt_or_ge b w.heap.size with h1 | h1
    · exact h1
    · simp [World.cell?, Array.getElem?_eq_none h1] at hc
  simp only [World.cell?] at hc ⊢
  rw [h.block b hl hb]
  exact hc
theorem amid_below {w0 w w' : World} {B C : Nat} (h : Below w0.heap.size w0 w) (ham : Amid w w' B C) (hB : w0.heap.size ≤ B) : Below w0.heap.size w0 w' :=
  ⟨ham.os.trans h.os, ham.tape.trans h.tape, ham.output.trans h.output, Nat.le_trans h.size ham.size, fun b hb => (ham.block b (by have := h.size; omega) (.inl (by omega))).trans (h.block b hb)⟩
theorem grown_trans {w w1 w2 : World} {row : Option Nat} (h : w.grownBy w1 row) (h2 : w1.grownBy w2 row) : w.grownBy w2 row :=
  ⟨h2.os.trans h.os, h2.tape.trans h.tape, h2.output.trans h.output, Nat.le_trans h.size h2.size, fun k hk hr => (h2.block k (Nat.lt_of_lt_of_le hk h.size) hr).trans (h.block k hk hr)⟩
theorem grown_below {w w1 : World} {row : Option Nat} (h : Below w.heap.size w w1) : w.grownBy w1 row := ⟨h.os, h.tape, h.output, h.size, fun k hk _ => h.block k hk⟩
theorem grown_set (w : World) (g i : Nat) (u : Value) : w.grownBy (w.setCell ⟨g, i, none⟩ u) (some g) :=
  ⟨rfl, rfl, rfl, by simp [World.setCell], fun k hk hr => Below.heap_setCell _ _ _ _ (fun e => hr (by rw [e]))⟩
theorem kept_cell {B : Nat} {W w : World} (h : Below B W w) {b o : Nat} (hb : b < B) {v : Value} (hc : W.cell? ⟨b, o, none⟩ = some v) : w.cell? ⟨b, o, none⟩ = some v := (h.cell (p := ⟨b, o, none⟩) hb).trans hc
theorem kept_free {B : Nat} {W w : World} (h : Below B W w) {b o : Nat} (hb : b < B) (hc : W.frozen? ⟨b, o, none⟩ = false) : w.frozen? ⟨b, o, none⟩ = false := (h.frozen (p := ⟨b, o, none⟩) hb).trans hc
def NJ (l : List NodeD) (i : Nat) : NodeD := l[i]?.getD ⟨0, 0, 0, 0⟩
theorem NJ_eq {l : List NodeD} {i : Nat} (h : i < l.length) : NJ l i = l[i] := by unfold NJ; rw [List.getElem?_eq_getElem h, Option.getD_some]
theorem nvals_flat : ∀ (l : List NodeD), Nst.flat (fun i => nval (NJ l i)) l.length = nvals l := by
  intro l
  have h : ∀ n, n ≤ l.length → Nst.flat (fun i => nval (NJ l i)) n = nvals (l.take n) := by
    intro n
    induction n with
    | zero => intro _; rfl
    | succ n ih =>
      intro hn
      rw [Nst.flat_succ, ih (by omega), NJ_eq (by omega), ← List.take_append_getElem (by omega), nvals_snoc]
  rw [h l.length (Nat.le_refl _), List.take_length]
def mn (k i : Nat) : NodeD := ⟨((k + 4 * i : Nat) : Int), ((k + 4 * i + 1 : Nat) : Int), ((k + 4 * i + 2 : Nat) : Int), ((k + 4 * i + 3 : Nat) : Int)⟩
def mkN (k m : Nat) : List NodeD := (List.range m).map (mn k)
theorem mkN_len (k m : Nat) : (mkN k m).length = m := by simp [mkN]
theorem mkN_get (k m i : Nat) (h : i < (mkN k m).length) : (mkN k m)[i] = mn k i := by simp [mkN]
theorem mkN_J {k m i : Nat} (h : i < m) : NJ (mkN k m) i = mn k i := by
  rw [NJ_eq (by rw [mkN_len]; exact h), mkN_get]
abbrev Z0 : Nat → Nst.Sub := fun _ => ⟨0, 0, .slice none 0 0, 0, []⟩
abbrev mcell (k : Nat) (c : Nat → List Value) (j : Nat) : Nat → List Value := fun x => if x < j then nval (mn k x) else c x
set_option maxRecDepth 100000 in
set_option maxHeartbeats 4000000 in
theorem markNodes (B g cap n k : Nat) (c : Nat → List Value) (w : World) (hn : n ≤ 1048576) (hk : k ≤ 1000000000000000) (hc : ∀ j, j < n → (c j).length = 4) (h : Nst.At w B 210 4 (.slice (some ⟨g, 0, none⟩) n cap) n c 0 Z0) :
    Calls Tryz.prog 102 #[.slice (some ⟨g, 0, none⟩) n cap, .int .i64 (k : Int)] w fun e w' => e = .returned (.int .i64 ((k + 4 * n : Nat) : Int)) ∧ Nst.At w' B 210 4 (.slice (some ⟨g, 0, none⟩) n cap) n (mcell k c n) 0 Z0 ∧ w.grownBy w' (some g) := by
  have H0 : Hid (Nst.At w B 210 4 (.slice (some ⟨g, 0, none⟩) n cap) n (mcell k c 0) 0 Z0) := hid (h.congr (fun j hj => by simp [mcell]) (fun i hi => rfl))
  have HC := hid hc
  clear h hc
  go_enter Tryz.func102, Tryz.ntmps102
  go_wp2
  go_loopw [1, 5] (fun q i wr => ∃ (j : Nat), i = .int .i64 j ∧ q = .int .i64 ((k + 4 * j : Nat) : Int) ∧ j ≤ n ∧ Hid (Nst.At wr B 210 4 (.slice (some ⟨g, 0, none⟩) n cap) n (mcell k c j) 0 Z0) ∧ Hid (w.grownBy wr (some g))) (fun _ i _ => n - (intOf i).toNat)
  case atStart => exact ⟨0, rfl, by simp, Nat.zero_le _, H0, hid (grown_below (Below.refl _ _))⟩
  case round =>
    obtain ⟨j, rfl, rfl, hj, HW, HG⟩ := hrel
    by_cases hlt : j < n
    · have q1 : (j : Int) < (n : Int) := by omega
      have hml : ∀ x, x < n → (mcell k c j x).length = 4 := fun x hx => by unfold mcell; split; rfl; exact HC.out x hx
      obtain ⟨p0, p1, p2, p3, hp⟩ : ∃ p0 p1 p2 p3, mcell k c j j = [p0, p1, p2, p3] := by
        match hm : mcell k c j j, hml j hlt with
        | [a, b, d, e], _ => exact ⟨a, b, d, e, rfl⟩
      have hr := HW.out
      have c0 := hr.cell hml hlt (i := 0) (by omega)
      have c1 := hr.cell hml hlt (i := 1) (by omega)
      have c2 := hr.cell hml hlt (i := 2) (by omega)
      have c3 := hr.cell hml hlt (i := 3) (by omega)
      rw [hp] at c0 c1 c2 c3
      replace c0 : wr.cell? ⟨g, j * 4, none⟩ = some p0 := c0
      replace c1 : wr.cell? ⟨g, j * 4 + 1, none⟩ = some p1 := c1
      replace c2 : wr.cell? ⟨g, j * 4 + 2, none⟩ = some p2 := c2
      replace c3 : wr.cell? ⟨g, j * 4 + 3, none⟩ = some p3 := c3
      have z0 := hr.free (j * 4)
      have z1 := hr.free (j * 4 + 1)
      have z2 := hr.free (j * 4 + 2)
      have z3 := hr.free (j * 4 + 3)
      have hgl := (Nst.own_lt hr.row (b := g) rfl).2
      have step : ∀ {wx : World} {L : List Value} (i : Nat) (u : Value), Nst.At wx B 210 4 (.slice (some ⟨g, 0, none⟩) n cap) n (fun x => if x = j then L else mcell k c j x) 0 Z0 → L.length = 4 → i < 4 → Nst.At (wx.setCell ⟨g, j * 4 + i, none⟩ u) B 210 4 (.slice (some ⟨g, 0, none⟩) n cap) n (fun x => if x = j then L.set i u else mcell k c j x) 0 Z0 := fun {wx L} i u ha hL hi => by
        have := ha.setRow (fun x hx => by by_cases e : x = j <;> simp only [e, if_true, if_false]; exact hL; exact hml x hx) hlt hi u
        refine this.congr (fun x hx => ?_) (fun _ _ => rfl)
        by_cases e : x = j <;> simp only [e, if_true, if_false]
      have s0 : Nst.At wr B 210 4 (.slice (some ⟨g, 0, none⟩) n cap) n (fun x => if x = j then [p0, p1, p2, p3] else mcell k c j x) 0 Z0 := hr.congr (fun x hx => by
        by_cases e : x = j
        · subst e; rw [if_pos rfl]; exact hp.symm
        · rw [if_neg e]) (fun _ _ => rfl)
      have s1 := step 0 (.int .i64 ((k : Int) + 4 * (j : Int))) s0 rfl (by omega)
      have s2 := step 1 (.int .i64 ((k : Int) + 4 * (j : Int) + 1)) s1 rfl (by omega)
      have s3 := step 2 (.int .i64 ((k : Int) + 4 * (j : Int) + 1 + 1)) s2 rfl (by omega)
      have s4 := step 3 (.int .i64 ((k : Int) + 4 * (j : Int) + 1 + 1 + 1)) s3 rfl (by omega)
      have HR4 : Hid (Nst.At ((((wr.setCell ⟨g, j * 4, none⟩ (.int .i64 ((k : Int) + 4 * (j : Int)))).setCell ⟨g, j * 4 + 1, none⟩ (.int .i64 ((k : Int) + 4 * (j : Int) + 1))).setCell ⟨g, j * 4 + 2, none⟩ (.int .i64 ((k : Int) + 4 * (j : Int) + 1 + 1))).setCell ⟨g, j * 4 + 3, none⟩ (.int .i64 ((k : Int) + 4 * (j : Int) + 1 + 1 + 1))) B 210 4 (.slice (some ⟨g, 0, none⟩) n cap) n (mcell k c (j + 1)) 0 Z0) := hid (s4.congr (fun x hx => by
        by_cases e : x = j
        · subst e
          simp only [mcell, Nat.lt_succ_self, if_true, nval, mn, List.set_cons_zero, List.set_cons_succ]
          push_cast
          simp only [Int.add_assoc]
        · have e2 : (x < j + 1) = (x < j) := by simp only [eq_iff_iff]; omega
          simp only [mcell, e, if_false, e2]) (fun _ _ => rfl))
      have HG4 := hid (grown_trans HG.out (grown_trans (grown_trans (grown_trans (grown_set wr g (j * 4) (.int .i64 ((k : Int) + 4 * (j : Int)))) (grown_set _ g (j * 4 + 1) (.int .i64 ((k : Int) + 4 * (j : Int) + 1)))) (grown_set _ g (j * 4 + 2) (.int .i64 ((k : Int) + 4 * (j : Int) + 1 + 1)))) (grown_set _ g (j * 4 + 3) (.int .i64 ((k : Int) + 4 * (j : Int) + 1 + 1 + 1)))))
      clear hr s0 s1 s2 s3 s4 step hp hml
      go_wp2
      exact ⟨⟨j + 1, by simp, by simp; omega, by omega, HR4, HG4⟩, by simp [intOf]; omega⟩
    · obtain rfl : j = n := by omega
      go_wp2
      go_ret
      exact ⟨rfl, HW.out, HG.out⟩
theorem mcell_flat (k : Nat) (c : Nat → List Value) (n : Nat) : Nst.flat (mcell k c n) n = nvals (mkN k n) := by
  have h := nvals_flat (mkN k n)
  rw [mkN_len] at h
  rw [← h]
  refine Nst.flat_congr (fun j hj => ?_)
  rw [mkN_J hj]
  simp only [mcell, hj, if_true]
theorem markNodesO (B k : Nat) (l : List NodeD) (v : Value) (w : World) (hn : l.length ≤ 1048576) (hk : k ≤ 1000000000000000) (h : w.ownsRow B 210 4 v l.length (nvals l)) :
    Calls Tryz.prog 102 #[v, .int .i64 (k : Int)] w fun e w' => e = .returned (.int .i64 ((k + 4 * l.length : Nat) : Int)) ∧ w'.ownsRow B 210 4 v l.length (nvals (mkN k l.length)) ∧ w.grownBy w' v.ownBlock := by
  rcases Nat.eq_zero_or_pos l.length with e | e
  · have e2 : l = [] := List.eq_nil_of_length_eq_zero e
    subst e2
    obtain ⟨a, cap, rfl⟩ := Nst.own_slice h
    have H := hid h
    clear h
    go_enter Tryz.func102, Tryz.ntmps102
    go_wp2
    refine wp_loop_rounds 2 ?_
    rw [rounds_succ]
    go_wp2
    go_ret
    exact ⟨by simp, H.out, grown_below (Below.refl _ _)⟩
  · obtain ⟨g, cap, rfl, hB, hg, hc, hm⟩ := Nst.own_some h e
    have hA : Nst.At w B 210 4 (.slice (some ⟨g, 0, none⟩) l.length cap) l.length (fun i => nval (NJ l i)) 0 Z0 := ⟨by rw [nvals_flat]; exact h, fun i hi => by omega, fun i j hi => by omega, fun i hi => by omega⟩
    refine (markNodes B g cap l.length k _ w hn hk (fun _ _ => rfl) hA).mono ?_
    rintro e w' ⟨h1, h2, h3⟩
    refine ⟨h1, ?_, h3⟩
    have := h2.row
    rw [mcell_flat] at this
    exact this
set_option maxRecDepth 100000 in
set_option maxHeartbeats 4000000 in
theorem heldNodes (B n k : Nat) (v : Value) (w : World) (hn : n ≤ 1048576) (hk : k ≤ 1000000000000000) (ha : Nd.At w B v (mkN k n)) :
    Calls Tryz.prog 202 #[v, .int .i64 (k : Int)] w fun e w' => e = .returned (.int .i64 ((k + 4 * n : Nat) : Int)) ∧ Below w.heap.size w w' := by
  obtain ⟨a, cap, rfl⟩ := ha.slice
  rw [mkN_len] at ha ⊢
  have HA := hid ha
  clear ha
  go_enter Tryz.func202, Tryz.ntmps202
  go_wp2
  go_loopw [1, 5] (fun q i wr => ∃ (j : Nat), i = .int .i64 j ∧ q = .int .i64 ((k + 4 * j : Nat) : Int) ∧ j ≤ n ∧ Hid (Below w.heap.size w wr)) (fun _ i _ => n - (intOf i).toNat)
  case atStart => exact ⟨0, rfl, by simp, Nat.zero_le _, hid (Below.refl _ _)⟩
  case round =>
    obtain ⟨j, rfl, rfl, hj, HB⟩ := hrel
    by_cases hlt : j < n
    · have q1 : (j : Int) < (n : Int) := by omega
      obtain ⟨g, o, rfl, hg, c0, c1, c2, c3⟩ := (HA.out.below HB.out).at (i := j) (by rw [mkN_len]; exact hlt)
      rw [mkN_get] at c0 c1 c2 c3
      replace c0 : wr.cell? ⟨g, o + j * 4, none⟩ = some (.int .i64 ((k + 4 * j : Nat) : Int)) := c0
      replace c1 : wr.cell? ⟨g, o + j * 4 + 1, none⟩ = some (.int .i64 ((k + 4 * j + 1 : Nat) : Int)) := c1
      replace c2 : wr.cell? ⟨g, o + j * 4 + 2, none⟩ = some (.int .i64 ((k + 4 * j + 2 : Nat) : Int)) := c2
      replace c3 : wr.cell? ⟨g, o + j * 4 + 3, none⟩ = some (.int .i64 ((k + 4 * j + 3 : Nat) : Int)) := c3
      go_wp2
      exact ⟨⟨j + 1, by simp, by simp; omega, by omega, HB⟩, by simp [intOf]; omega⟩
    · obtain rfl : j = n := by omega
      go_wp2
      go_ret
      exact ⟨rfl, HB.out⟩
end Nk
end Go.Proofs.YtccklgopcjilcaaGreatDoor
/- The law's marks in steps that a function has made itself, and whether they hold. -/
namespace Go.Proofs.YtccklgopcjilcaaGreatDoor
open Go.RowKit
set_option linter.unusedVariables false
namespace Sk
open Ex (hid nvals)
open Nd (NodeD)
open St (StepD)
open Nst (own)
open Mk (mt markText markText')
open Nk (Amid mkN mkN_len kept_cell)
open So (SJ SJ_eq scell nsub SAt SOwn subs sub_even sub_odd nodes_own)
def kAt (k0 : Nat) (ss : List StepD) : Nat → Nat
  | 0 => k0
  | i + 1 => kAt k0 ss i + 4 + 4 * (SJ ss i).cond.length + 4 * (SJ ss i).expr.length
theorem kAt_pos {k0 : Nat} (h : 0 < k0) (ss : List StepD) : ∀ i, 0 < kAt k0 ss i
  | 0 => h
  | i + 1 => by rw [kAt]; omega
theorem kAt_le {k0 : Nat} {ss : List StepD} {n : Nat} (hm : ∀ j, j < n → (SJ ss j).cond.length ≤ 64 ∧ (SJ ss j).expr.length ≤ 64) : ∀ i, i ≤ n → kAt k0 ss i ≤ k0 + 516 * i
  | 0, _ => by simp [kAt]
  | i + 1, h => by
    have := kAt_le (k0 := k0) hm i (by omega)
    have := hm i (by omega)
    rw [kAt]; omega
def mst (k0 : Nat) (ss : List StepD) (i : Nat) : StepD := ⟨(kAt k0 ss i : Int), ((kAt k0 ss i + 1 : Nat) : Int), mt (kAt k0 ss i + 2), ((kAt k0 ss i + 3 : Nat) : Int), mkN (kAt k0 ss i + 4) (SJ ss i).cond.length, mkN (kAt k0 ss i + 4 + 4 * (SJ ss i).cond.length) (SJ ss i).expr.length⟩
def mkS (k0 : Nat) (ss : List StepD) : List StepD := (List.range ss.length).map (mst k0 ss)
theorem mkS_len (k0 : Nat) (ss : List StepD) : (mkS k0 ss).length = ss.length := by simp [mkS]
theorem mkS_get (k0 : Nat) (ss : List StepD) (i : Nat) (h : i < (mkS k0 ss).length) : (mkS k0 ss)[i] = mst k0 ss i := by simp [mkS]
theorem mkS_J {k0 : Nat} {ss : List StepD} {i : Nat} (h : i < ss.length) : SJ (mkS k0 ss) i = mst k0 ss i := by
  rw [SJ_eq (by rw [mkS_len]; exact h), mkS_get]
abbrev ec (k0 : Nat) (ss : List StepD) (C E : Nat → Value) (j : Nat) : Nat → List Value := fun x => if x < j then scell (mst k0 ss x) (C x) (E x) else scell (SJ ss x) (C x) (E x)
abbrev sc (k0 : Nat) (ss : List StepD) (C E : Nat → Value) (j : Nat) : Nat → Nst.Sub := fun i => if i / 2 < j then (if i % 2 = 0 then nsub (C (i / 2)) (mst k0 ss (i / 2)).cond else nsub (E (i / 2)) (mst k0 ss (i / 2)).expr) else subs ss C E i
abbrev SAj (w : World) (B : Nat) (v : Value) (k0 : Nat) (ss : List StepD) (C E : Nat → Value) (j : Nat) : Prop := Nst.At w B 164 6 v ss.length (ec k0 ss C E j) (2 * ss.length) (sc k0 ss C E j)
theorem sub_mk (va : Value) (k : Nat) (l : List NodeD) : ({ nsub va l with xs := nvals (mkN k l.length) } : Nst.Sub) = nsub va (mkN k l.length) := by
  unfold nsub
  rw [mkN_len]
theorem int_i {k : Nat} {c : Nat} {z : Int} (h : z = ((k + c : Nat) : Int)) : Value.int .i64 z = .int .i64 ((k + c : Nat) : Int) := by rw [h]
set_option maxRecDepth 100000 in
set_option maxHeartbeats 8000000 in
theorem markSteps1 (B C0 g cap k0 : Nat) (ss : List StepD) (C E : Nat → Value) (w : World) (hn : ss.length ≤ 64) (h0 : 0 < k0) (hk0 : k0 ≤ 1000000) (hm : ∀ j, j < ss.length → (SJ ss j).cond.length ≤ 64 ∧ (SJ ss j).expr.length ≤ 64) (h : SAt w B (.slice (some ⟨g, 0, none⟩) ss.length cap) ss C E) (hgC : g < C0) (hFC : ∀ j, j < ss.length → ∀ b, own (C j) b ∨ own (E j) b → b < C0) :
    Calls Tryz.prog 52 #[.slice (some ⟨g, 0, none⟩) ss.length cap, .int .i64 (k0 : Int)] w fun e w' => e = .returned (.int .i64 (kAt k0 ss ss.length : Int)) ∧ SAt w' B (.slice (some ⟨g, 0, none⟩) ss.length cap) (mkS k0 ss) C E ∧ Amid w w' B C0 := by
  have hgB := (Nst.own_lt h.row (b := g) rfl).1
  have H0 : Hid (SAj w B (.slice (some ⟨g, 0, none⟩) ss.length cap) k0 ss C E 0) := hid (h.congr (fun j hj => by simp [ec]) (fun i hi => by simp [sc]))
  have HM := hid hm
  have HK := hid (fun i (hi : i ≤ ss.length) => kAt_le (k0 := k0) hm i hi)
  have HP := hid (kAt_pos h0 ss)
  have HFC := hid hFC
  clear h hm hFC
  go_enter Tryz.func52, Tryz.ntmps52
  go_wp2
  go_loopw [1, 5] (fun q i wr => ∃ (j : Nat), i = .int .i64 j ∧ q = .int .i64 (kAt k0 ss j : Int) ∧ j ≤ ss.length ∧ Hid (SAj wr B (.slice (some ⟨g, 0, none⟩) ss.length cap) k0 ss C E j) ∧ Hid (Amid w wr B C0)) (fun _ i _ => ss.length - (intOf i).toNat)
  case atStart => exact ⟨0, rfl, by simp [kAt], Nat.zero_le _, H0, hid (Amid.refl _ _ _)⟩
  case round =>
    obtain ⟨j, rfl, rfl, hj, HW, HA⟩ := hrel
    by_cases hlt : j < ss.length
    · have q1 : (j : Int) < (ss.length : Int) := by omega
      have hmj := (HM.out j hlt).1
      have hmj2 := (HM.out j hlt).2
      have hkj := HK.out j (by omega)
      have hpj := HP.out j
      have HKS : Hid (kAt k0 ss (j + 1) = kAt k0 ss j + 4 + 4 * (SJ ss j).cond.length + 4 * (SJ ss j).expr.length) := hid rfl
      have HME : Hid (mst k0 ss j = ⟨(kAt k0 ss j : Int), ((kAt k0 ss j + 1 : Nat) : Int), mt (kAt k0 ss j + 2), ((kAt k0 ss j + 3 : Nat) : Int), mkN (kAt k0 ss j + 4) (SJ ss j).cond.length, mkN (kAt k0 ss j + 4 + 4 * (SJ ss j).cond.length) (SJ ss j).expr.length⟩) := hid rfl
      have hml : ∀ x, x < ss.length → (ec k0 ss C E j x).length = 6 := fun x hx => by unfold ec; split <;> rfl
      have HML := hid hml
      have hej : ec k0 ss C E j j = [.int .i64 (SJ ss j).kind, .int .i64 (SJ ss j).parent, .string (SJ ss j).name, .int .i64 (SJ ss j).arg, C j, E j] := by simp [ec, scell]
      have step : ∀ (wx : World) (L : List Value) (s : Nat → Nst.Sub) (i : Nat) (u : Value), Nst.At wx B 164 6 (.slice (some ⟨g, 0, none⟩) ss.length cap) ss.length (fun x => if x = j then L else ec k0 ss C E j x) (2 * ss.length) s → L.length = 6 → i < 6 → Nst.At (wx.setCell ⟨g, j * 6 + i, none⟩ u) B 164 6 (.slice (some ⟨g, 0, none⟩) ss.length cap) ss.length (fun x => if x = j then L.set i u else ec k0 ss C E j x) (2 * ss.length) s := by
        intro wx L s i u ha hL hi
        have := ha.setRow (fun x hx => by
          by_cases e : x = j
          · simp only [e, if_true]; exact hL
          · simp only [e, if_false]; exact HML.out x hx) hlt hi u
        refine this.congr (fun x hx => ?_) (fun _ _ => rfl)
        by_cases e : x = j <;> simp only [e, if_true, if_false]
      have HSTEP := hid step
      have cut : ∀ (wx : World) (L : List Value) (s : Nat → Nst.Sub) (u : Value) (i : Nat), Nst.At wx B 164 6 (.slice (some ⟨g, 0, none⟩) ss.length cap) ss.length (fun x => if x = j then L else ec k0 ss C E j x) (2 * ss.length) s → L.length = 6 → i < 6 → L[i]? = some u → wx.cell? ⟨g, j * 6 + i, none⟩ = some u := by
        intro wx L s u i ha hL hi hu
        have := ha.cell (fun x hx => by
          by_cases e : x = j
          · simp only [e, if_true]; exact hL
          · simp only [e, if_false]; exact HML.out x hx) hlt hi
        simp only [if_true] at this
        rw [this]; exact hu
      have HCUT := hid cut
      clear step cut
      have HS0 : Hid (Nst.At wr B 164 6 (.slice (some ⟨g, 0, none⟩) ss.length cap) ss.length (fun x => if x = j then [.int .i64 (SJ ss j).kind, .int .i64 (SJ ss j).parent, .string (SJ ss j).name, .int .i64 (SJ ss j).arg, C j, E j] else ec k0 ss C E j x) (2 * ss.length) (sc k0 ss C E j)) := hid (HW.out.congr (fun x hx => by
        by_cases e : x = j
        · subst e; rw [if_pos rfl]; exact hej.symm
        · rw [if_neg e]) (fun _ _ => rfl))
      generalize hkk : kAt k0 ss j = k at *
      clear hml hkk hej
      have c0 := HCUT.out _ _ _ _ 0 HS0.out rfl (by omega) rfl
      have c1 := HCUT.out _ _ _ _ 1 HS0.out rfl (by omega) rfl
      have z0 := HS0.out.free (j * 6)
      have z1 := HS0.out.free (j * 6 + 1)
      have hgl := (Nst.own_lt HS0.out.row (b := g) rfl).2
      replace c0 : wr.cell? ⟨g, j * 6, none⟩ = some (.int .i64 (SJ ss j).kind) := c0
      have HS2 := hid (HSTEP.out _ _ _ 1 (.int .i64 ((k : Int) + 1)) (HSTEP.out _ _ _ 0 (.int .i64 (k : Int)) HS0.out rfl (by omega)) rfl (by omega))
      have HA2 : Hid (Amid w ((wr.setCell ⟨g, j * 6, none⟩ (.int .i64 (k : Int))).setCell ⟨g, j * 6 + 1, none⟩ (.int .i64 ((k : Int) + 1))) B C0) := hid ((HA.out.trans (Amid.set wr (j * 6) (.int .i64 (k : Int)) hgB hgC)).trans (Amid.set _ (j * 6 + 1) (.int .i64 ((k : Int) + 1)) hgB hgC))
      replace HS2 : Hid (Nst.At ((wr.setCell ⟨g, j * 6, none⟩ (.int .i64 (k : Int))).setCell ⟨g, j * 6 + 1, none⟩ (.int .i64 ((k : Int) + 1))) B 164 6 (.slice (some ⟨g, 0, none⟩) ss.length cap) ss.length (fun x => if x = j then [.int .i64 (k : Int), .int .i64 ((k : Int) + 1), .string (SJ ss j).name, .int .i64 (SJ ss j).arg, C j, E j] else ec k0 ss C E j x) (2 * ss.length) (sc k0 ss C E j)) := HS2
      go_wp2_with fail
      generalize (wr.setCell ⟨g, j * 6, none⟩ (.int .i64 (k : Int))).setCell ⟨g, j * 6 + 1, none⟩ (.int .i64 ((k : Int) + 1)) = w2 at *
      refine (markText' _ _ (by omega) (by omega)).mono ?_
      rintro e w3 ⟨rfl, hb3⟩
      have ek : ((k : Int) + 1 + 1).toNat = k + 2 := by omega
      rw [ek]
      have hs3 := HS2.out.below hb3
      have c2 := HCUT.out _ _ _ _ 2 hs3 rfl (by omega) rfl
      have c3 := HCUT.out _ _ _ _ 3 hs3 rfl (by omega) rfl
      have c4 := HCUT.out _ _ _ _ 4 (HSTEP.out _ _ _ 3 (.int .i64 ((k : Int) + 1 + 1 + 1)) (HSTEP.out _ _ _ 2 (.string (mt (k + 2))) hs3 rfl (by omega)) rfl (by omega)) rfl (by omega) rfl
      have y2 := hs3.free (j * 6 + 2)
      have y3 := hs3.free (j * 6 + 3)
      have hgl3 := (Nst.own_lt hs3.row (b := g) rfl).2
      have HS4 : Hid (Nst.At ((w3.setCell ⟨g, j * 6 + 2, none⟩ (.string (mt (k + 2)))).setCell ⟨g, j * 6 + 3, none⟩ (.int .i64 ((k : Int) + 1 + 1 + 1))) B 164 6 (.slice (some ⟨g, 0, none⟩) ss.length cap) ss.length (fun x => if x = j then [.int .i64 (k : Int), .int .i64 ((k : Int) + 1), .string (mt (k + 2)), .int .i64 ((k : Int) + 1 + 1 + 1), C j, E j] else ec k0 ss C E j x) (2 * ss.length) (sc k0 ss C E j)) := hid (HSTEP.out _ _ _ 3 (.int .i64 ((k : Int) + 1 + 1 + 1)) (HSTEP.out _ _ _ 2 (.string (mt (k + 2))) hs3 rfl (by omega)) rfl (by omega))
      have HA4 : Hid (Amid w ((w3.setCell ⟨g, j * 6 + 2, none⟩ (.string (mt (k + 2)))).setCell ⟨g, j * 6 + 3, none⟩ (.int .i64 ((k : Int) + 1 + 1 + 1))) B C0) := hid (((HA2.out.trans (Amid.of_below hb3)).trans (Amid.set w3 (j * 6 + 2) (.string (mt (k + 2))) hgB hgC)).trans (Amid.set _ (j * 6 + 3) (.int .i64 ((k : Int) + 1 + 1 + 1)) hgB hgC))
      have hsc : sc k0 ss C E j (2 * j) = nsub (C j) (SJ ss j).cond := by
        have e1 : ¬ 2 * j / 2 < j := by omega
        simp only [sc, e1, if_false]; exact sub_even ss C E j
      have hse : sc k0 ss C E j (2 * j + 1) = nsub (E j) (SJ ss j).expr := by
        have e1 : ¬ (2 * j + 1) / 2 < j := by omega
        simp only [sc, e1, if_false]; exact sub_odd ss C E j
      have HSC := hid hsc
      have HSE := hid hse
      obtain ⟨ac, cc, hCj⟩ : ∃ a c, C j = .slice a (SJ ss j).cond.length c := by
        have := HS4.out.sub (2 * j) (by omega)
        rw [hsc] at this
        exact Nst.own_slice this
      obtain ⟨ae, ce, hEj⟩ : ∃ a c, E j = .slice a (SJ ss j).expr.length c := by
        have := HS4.out.sub (2 * j + 1) (by omega)
        rw [hse] at this
        exact Nst.own_slice this
      have HCJ := hid hCj
      have HEJ := hid hEj
      have c4' : ((w3.setCell ⟨g, j * 6 + 2, none⟩ (.string (mt (k + 2)))).setCell ⟨g, j * 6 + 3, none⟩ (.int .i64 ((k : Int) + 1 + 1 + 1))).cell? ⟨g, j * 6 + 4, none⟩ = some (.slice ac (SJ ss j).cond.length cc) := by rw [← hCj]; exact c4
      have c4'' : w3.cell? ⟨g, j * 6 + 4, none⟩ = some (.slice ac (SJ ss j).cond.length cc) := by rw [← hCj]; exact HCUT.out _ _ _ _ 4 hs3 rfl (by omega) rfl
      clear hs3 hsc hse hCj hEj hb3 c4
      go_wp2_with fail
      generalize (w3.setCell ⟨g, j * 6 + 2, none⟩ (.string (mt (k + 2)))).setCell ⟨g, j * 6 + 3, none⟩ (.int .i64 ((k : Int) + 1 + 1 + 1)) = w4 at *
      have hsub : w4.ownsRow B 210 4 (.slice ac (SJ ss j).cond.length cc) (SJ ss j).cond.length (nvals (SJ ss j).cond) := by
        have := HS4.out.sub (2 * j) (by omega)
        rw [HSC.out, HCJ.out] at this
        exact this
      have HCA := hid (Nk.markNodesO B (k + 4) (SJ ss j).cond _ w4 (by omega) (by omega) hsub)
      rw [show ((k + 4 : Nat) : Int) = (k : Int) + 1 + 1 + 1 + 1 by omega] at HCA
      clear hsub
      refine HCA.out.mono ?_
      rintro e w5 ⟨rfl, hx5, hg5⟩
      have hq5 := HS4.out.setSub (q := 2 * j) (by omega) (xs := nvals (mkN (k + 4) (SJ ss j).cond.length)) (by rw [HSC.out, HCJ.out]; exact hx5) (by rw [HSC.out, HCJ.out]; exact hg5)
      have HS5 := hid hq5
      have hB5 : ∀ b, own (C j) b → B ≤ b := fun b hb => by
        have := HS4.out.sub (2 * j) (by omega)
        rw [HSC.out] at this
        exact (Nst.own_lt this hb).1
      have HA5 : Hid (Amid w w5 B C0) := hid (HA4.out.trans (Nk.amid_grown hg5 (fun b hb => by
        rw [← HCJ.out] at hb
        exact ⟨hB5 b hb, HFC.out j hlt b (.inl hb)⟩)))
      have c5 : w5.cell? ⟨g, j * 6 + 5, none⟩ = some (.slice ae (SJ ss j).expr.length ce) := by rw [← HEJ.out]; exact HCUT.out _ _ _ _ 5 HS5.out rfl (by omega) rfl
      have hgl5 := (Nst.own_lt HS5.out.row (b := g) rfl).2
      clear hx5 hg5 hq5 HCA hB5
      go_wp2_with fail
      have hne : ¬ 2 * j + 1 = 2 * j := by omega
      have hsub : w5.ownsRow B 210 4 (.slice ae (SJ ss j).expr.length ce) (SJ ss j).expr.length (nvals (SJ ss j).expr) := by
        have := HS5.out.sub (2 * j + 1) (by omega)
        simp only [hne, if_false] at this
        rw [HSE.out, HEJ.out] at this
        exact this
      have HCE := hid (Nk.markNodesO B (k + 4 + 4 * (SJ ss j).cond.length) (SJ ss j).expr _ w5 (by omega) (by omega) hsub)
      clear hsub
      refine HCE.out.mono ?_
      rintro e w6 ⟨rfl, hx6, hg6⟩
      have hq6 := HS5.out.setSub (q := 2 * j + 1) (by omega) (xs := nvals (mkN (k + 4 + 4 * (SJ ss j).cond.length) (SJ ss j).expr.length)) (by simp only [hne, if_false]; rw [HSE.out, HEJ.out]; exact hx6) (by simp only [hne, if_false]; rw [HSE.out, HEJ.out]; exact hg6)
      have HS6 : Hid (SAj w6 B (.slice (some ⟨g, 0, none⟩) ss.length cap) k0 ss C E (j + 1)) := hid (hq6.congr (fun x hx => by
        by_cases e : x = j
        · subst e
          simp only [ec, Nat.lt_succ_self, if_true, HME.out, scell]
          push_cast
          simp only [Int.add_assoc]
        · have e2 : (x < j + 1) = (x < j) := by simp only [eq_iff_iff]; omega
          simp only [ec, e, if_false, e2]) (fun i hi => by
        by_cases e1 : i = 2 * j + 1
        · subst e1
          have a1 : (2 * j + 1) / 2 = j := by omega
          have a2 : ¬ (2 * j + 1) % 2 = 0 := by omega
          simp only [sc, a1, a2, Nat.lt_succ_self, if_true, if_false, HME.out, hne, Nat.lt_irrefl]
          rw [show subs ss C E (2 * j + 1) = nsub (E j) (SJ ss j).expr from sub_odd ss C E j]
          exact (sub_mk (E j) (k + 4 + 4 * (SJ ss j).cond.length) (SJ ss j).expr).symm
        · by_cases e2 : i = 2 * j
          · subst e2
            have a1 : 2 * j / 2 = j := by omega
            have a2 : 2 * j % 2 = 0 := by omega
            have a3 : ¬ 2 * j = 2 * j + 1 := by omega
            simp only [sc, a1, a2, Nat.lt_succ_self, if_true, if_false, HME.out, a3, Nat.lt_irrefl]
            rw [show subs ss C E (2 * j) = nsub (C j) (SJ ss j).cond from sub_even ss C E j]
            exact (sub_mk (C j) (k + 4) (SJ ss j).cond).symm
          · have a1 : (i / 2 < j + 1) = (i / 2 < j) := by simp only [eq_iff_iff]; omega
            simp only [sc, e1, e2, if_false, a1]))
      have hB6 : ∀ b, own (E j) b → B ≤ b := fun b hb => by
        have := HS5.out.sub (2 * j + 1) (by omega)
        simp only [hne, if_false] at this
        rw [HSE.out] at this
        exact (Nst.own_lt this hb).1
      have HA6 : Hid (Amid w w6 B C0) := hid (HA5.out.trans (Nk.amid_grown hg6 (fun b hb => by
        rw [← HEJ.out] at hb
        exact ⟨hB6 b hb, HFC.out j hlt b (.inr hb)⟩)))
      clear hx6 hg6 hq6 HCE hB6
      go_wp2
      exact ⟨⟨j + 1, by simp, by rw [HKS.out]; simp, by omega, HS6, HA6⟩, by simp [intOf]; omega⟩
    · obtain rfl : j = ss.length := by omega
      have HE : Hid (SAt wr B (.slice (some ⟨g, 0, none⟩) ss.length cap) (mkS k0 ss) C E) := hid (by
        unfold SAt
        rw [mkS_len]
        exact HW.out.congr (fun x hx => by simp only [ec, hx, if_true, mkS_J hx]) (fun i hi => by
          have hx : i / 2 < ss.length := by omega
          simp only [sc, subs, hx, if_true, mkS_J hx]))
      go_wp2
      go_ret
      exact ⟨rfl, HE.out, HA.out⟩
end Sk
end Go.Proofs.YtccklgopcjilcaaGreatDoor
