/- Laid together: JnT, WfT, KcA, KcB, ImV. -/
import Derived.Test.YtccklgopcjilcaaGreatDoorJWF21
import Derived.Test.YtccklgopcjilcaaGreatDoorJWF19
import Derived.Test.YtccklgopcjilcaaGreatDoorJWF33
import Derived.Test.YtccklgopcjilcaaGreatDoorJWF30
import Derived.Laws.IdiomCopy
import Derived.Deep.MidRow
import Derived.Deep.Upon
import Derived.Test.YtccklgopcjilcaaGreatDoorJWF3
/- JournalFault, of the program and of the specification. No condition. -/
namespace Go.Proofs.YtccklgopcjilcaaGreatDoor
open Go.RowKit
set_option linter.unusedVariables false
namespace Jn
def jF (s l : List UInt8) : Int := if 2400 < s.length + l.length then 2 else if (readL s).2 = s.length then (if (readL l).2 = l.length then 0 else 5) else 5
theorem jF_many {s l : List UInt8} (h : 2400 < s.length + l.length) : jF s l = 2 := by unfold jF; rw [if_pos h]
theorem jF_one {s l : List UInt8} (h : ¬ 2400 < s.length + l.length) (h1 : ¬ (readL s).2 = s.length) : jF s l = 5 := by unfold jF; rw [if_neg h, if_neg h1]
theorem jF_two {s l : List UInt8} (h : ¬ 2400 < s.length + l.length) (h1 : (readL s).2 = s.length) (h2 : ¬ (readL l).2 = l.length) : jF s l = 5 := by unfold jF; rw [if_neg h, if_pos h1, if_neg h2]
theorem jF_ok {s l : List UInt8} (h : ¬ 2400 < s.length + l.length) (h1 : (readL s).2 = s.length) (h2 : (readL l).2 = l.length) : jF s l = 0 := by unfold jF; rw [if_neg h, if_pos h1, if_pos h2]
theorem of_jF {s l : List UInt8} (h : jF s l = 0) : s.length + l.length ≤ 2400 ∧ (readL s).2 = s.length ∧ (readL l).2 = l.length := by
  unfold jF at h
  by_cases h1 : 2400 < s.length + l.length
  · rw [if_pos h1] at h; cases h
  · rw [if_neg h1] at h
    by_cases h2 : (readL s).2 = s.length
    · rw [if_pos h2] at h
      by_cases h3 : (readL l).2 = l.length
      · exact ⟨by omega, h2, h3⟩
      · rw [if_neg h3] at h; cases h
    · rw [if_neg h2] at h; cases h
set_option maxRecDepth 100000 in
set_option maxHeartbeats 2000000 in
theorem implAlone (B : Nat) (d : List UInt8) (v : Value) (w : World) (hd : d.length ≤ 1048576) (hB : B ≤ w.heap.size) (ha : At w B v d) : Calls Tryz.prog 109 #[v] w fun e w' => e = .returned (.bool (decide ((readL d).2 = d.length))) ∧ Below w.heap.size w w' := by
  obtain ⟨a, c, rfl, hc⟩ := ha.slice
  have HL := hid (implLines B d _ w hd hB ha)
  unfold LPost at HL
  generalize (readL d).2 = n at *
  generalize (readL d).1 = ls at *
  have HQ : Hid (((n : Int) == (d.length : Int)) = decide (n = d.length)) := hid (by by_cases h : n = d.length <;> simp [h]; omega)
  clear ha
  go_enter Tryz.func109, Tryz.ntmps109
  go_wp2_with fail
  refine HL.out.mono ?_
  rintro e w1 ⟨a1, c1, rfl, ho, hb1⟩
  have HB1 := hid hb1
  clear hb1 ho
  go_wp2
  go_ret
  exact ⟨by rw [← HQ.out]; rfl, HB1.out⟩
set_option maxRecDepth 100000 in
set_option maxHeartbeats 4000000 in
theorem implJFault (B : Nat) (s l : List UInt8) (v1 v2 : Value) (w : World) (h1 : s.length ≤ 1048576) (h2 : l.length ≤ 1048576) (hB : B ≤ w.heap.size) (ha1 : At w B v1 s) (ha2 : At w B v2 l) :
    Calls Tryz.prog 58 #[.agg #[v1, v2]] w fun e w' => e = .returned (.int .i64 (jF s l)) ∧ Below w.heap.size w w' := by
  obtain ⟨a1, c1, rfl, _⟩ := ha1.slice
  obtain ⟨a2, c2, rfl, _⟩ := ha2.slice
  have hb0 : Below w.heap.size w (w.alloc (.cells #[.slice a1 s.length c1, .slice a2 l.length c2] 33)) := (Below.refl _ w).alloc (Nat.le_refl _) _
  have HA1 := hid (fun w' (hb : Below w.heap.size w w') => implAlone B s _ w' h1 (Nat.le_trans hB hb.size) (ha1.below hb hB))
  have HA2 := hid (fun w' (hb : Below w.heap.size w w') => implAlone B l _ w' h2 (Nat.le_trans hB hb.size) (ha2.below hb hB))
  have HB0 := hid hb0
  have HM := hid (fun h => jF_many (s := s) (l := l) h)
  have H1 := hid (fun h h1 => jF_one (s := s) (l := l) h h1)
  have H2 := hid (fun h h1 h2 => jF_two (s := s) (l := l) h h1 h2)
  have H0 := hid (fun h h1 h2 => jF_ok (s := s) (l := l) h h1 h2)
  obtain ⟨f, hf⟩ : ∃ f, Hid (f = jF s l) := ⟨_, hid rfl⟩
  rw [← hf.out]
  clear hb0 ha1 ha2
  by_cases q : 2400 < s.length + l.length
  · have HX := hid (HM.out q)
    by_cases q1 : 2400 < s.length
    · have p1 : (2400 : Int) < (s.length : Int) := by omega
      clear q q1
      go_enter Tryz.func58, Tryz.ntmps58
      go_wp2
      go_ret
      exact ⟨by rw [hf.out, HX.out]; rfl, HB0.out⟩
    · have p1 : ¬ (2400 : Int) < (s.length : Int) := by omega
      have p2 : (2400 : Int) - (s.length : Int) < (l.length : Int) := by omega
      clear q q1
      go_enter Tryz.func58, Tryz.ntmps58
      go_wp2
      go_ret
      exact ⟨by rw [hf.out, HX.out]; rfl, HB0.out⟩
  · have p1 : ¬ (2400 : Int) < (s.length : Int) := by omega
    have p2 : ¬ (2400 : Int) - (s.length : Int) < (l.length : Int) := by omega
    have HQ := hid q
    clear q
    by_cases e1 : (readL s).2 = s.length
    · have HE1 := hid e1
      rw [decide_eq_true e1] at HA1
      by_cases e2 : (readL l).2 = l.length
      · have HX := hid (H0.out HQ.out e1 e2)
        rw [decide_eq_true e2] at HA2
        clear e1 e2
        go_enter Tryz.func58, Tryz.ntmps58
        go_wp2_with fail
        refine (HA1.out _ HB0.out).mono ?_
        rintro e w1 ⟨rfl, hb1⟩
        have B1 := HB0.out.trans (hb1.mono HB0.out.size)
        simp only [World.size_alloc] at hb1
        have t1 := kept_cell hb1 (b := w.heap.size) (o := 1) (v := .slice a2 l.length c2) (by omega) (by go_simp)
        clear hb1
        go_wp2_with fail
        refine (HA2.out _ B1).mono ?_
        rintro e w2 ⟨rfl, hb2⟩
        have B2 := B1.trans (hb2.mono B1.size)
        clear hb2
        go_wp2
        go_ret
        exact ⟨by rw [hf.out, HX.out]; rfl, B2⟩
      · have HX := hid (H2.out HQ.out e1 e2)
        rw [decide_eq_false e2] at HA2
        clear e1 e2
        go_enter Tryz.func58, Tryz.ntmps58
        go_wp2_with fail
        refine (HA1.out _ HB0.out).mono ?_
        rintro e w1 ⟨rfl, hb1⟩
        have B1 := HB0.out.trans (hb1.mono HB0.out.size)
        simp only [World.size_alloc] at hb1
        have t1 := kept_cell hb1 (b := w.heap.size) (o := 1) (v := .slice a2 l.length c2) (by omega) (by go_simp)
        clear hb1
        go_wp2_with fail
        refine (HA2.out _ B1).mono ?_
        rintro e w2 ⟨rfl, hb2⟩
        have B2 := B1.trans (hb2.mono B1.size)
        clear hb2
        go_wp2
        go_ret
        exact ⟨by rw [hf.out, HX.out]; rfl, B2⟩
    · have HX := hid (H1.out HQ.out e1)
      rw [decide_eq_false e1] at HA1
      clear e1
      go_enter Tryz.func58, Tryz.ntmps58
      go_wp2_with fail
      refine (HA1.out _ HB0.out).mono ?_
      rintro e w1 ⟨rfl, hb1⟩
      have B1 := HB0.out.trans (hb1.mono HB0.out.size)
      clear hb1
      go_wp2
      go_ret
      exact ⟨by rw [hf.out, HX.out]; rfl, B1⟩
theorem neq_dec (n m : Nat) : ((n : Int) != (m : Int)) = !decide (n = m) := by
  by_cases h : n = m
  · simp [h]
  · rw [decide_eq_false h, bne, beq_eq_false_iff_ne.2 (by omega)]
set_option maxRecDepth 100000 in
set_option maxHeartbeats 4000000 in
theorem specFaultAt (B P : Nat) (s l : List UInt8) (v1 v2 : Value) (w : World) (h1 : s.length ≤ 1048576) (h2 : l.length ≤ 1048576) (hB : B ≤ w.heap.size) (ha1 : At w B v1 s) (ha2 : At w B v2 l)
    (hP : w.heap[P]? = some (.cells #[v1, v2] 33 (0, 0))) :
    Calls Tryz.prog 106 #[.pointer (some ⟨P, 0, none⟩)] w fun e w' => e = .returned (.int .i64 (jF s l)) ∧ Below w.heap.size w w' := by
  obtain ⟨a1, c1, rfl, _⟩ := ha1.slice
  obtain ⟨a2, c2, rfl, _⟩ := ha2.slice
  have HA1 := hid (fun w' (hb : Below w.heap.size w w') => specLines B s _ w' h1 (Nat.le_trans hB hb.size) (ha1.below hb hB))
  have HA2 := hid (fun w' (hb : Below w.heap.size w w') => specLines B l _ w' h2 (Nat.le_trans hB hb.size) (ha2.below hb hB))
  have HP := hid hP
  have hPl := blk_lt hP
  have r0 := blk_cell hP (o := 0) (v := .slice a1 s.length c1) rfl
  have r1 := blk_cell hP (o := 1) (v := .slice a2 l.length c2) rfl
  have HM := hid (fun h => jF_many (s := s) (l := l) h)
  have H1 := hid (fun h h1 => jF_one (s := s) (l := l) h h1)
  have H2 := hid (fun h h1 h2 => jF_two (s := s) (l := l) h h1 h2)
  have H0 := hid (fun h h1 h2 => jF_ok (s := s) (l := l) h h1 h2)
  obtain ⟨f, hf⟩ : ∃ f, Hid (f = jF s l) := ⟨_, hid rfl⟩
  rw [← hf.out]
  unfold LPost at HA1 HA2
  generalize (readL s).2 = n at *
  generalize (readL s).1 = ls at *
  generalize (readL l).2 = m at *
  generalize (readL l).1 = ks at *
  have hbd : Below w.heap.size w w.drew := (Below.refl _ w).drew
  clear ha1 ha2 hP
  by_cases q : 2400 < s.length + l.length
  · have HX := hid (HM.out q)
    have p1 : (2400 : Int) < (s.length : Int) + (l.length : Int) := by omega
    clear q
    go_enter Tryz.func106, Tryz.ntmps106
    go_wp2
    go_quiet (fail)
    go_wp2
    go_ret
    exact ⟨by rw [hf.out, HX.out]; rfl, below_drewN (Below.refl _ _) _⟩
  · have p1 : ¬ (2400 : Int) < (s.length : Int) + (l.length : Int) := by omega
    have p1d : decide ((2400 : Int) < (s.length : Int) + (l.length : Int)) = false := decide_eq_false p1
    have HQ := hid q
    clear q
    go_enter Tryz.func106, Tryz.ntmps106
    go_wp2
    go_quiet (fail)
    go_wp2_with fail
    have hbq : Below w.heap.size w (w.drewN nq) := below_drewN (Below.refl _ _) nq
    refine (HA1.out _ hbq).mono ?_
    rintro e w1 ⟨a3, c3, rfl, ho1, hb1⟩
    have B1 := hbq.trans (hb1.mono hbq.size)
    have s0 := kept_cell B1 hPl r0
    have s1 := kept_cell B1 hPl r1
    clear ho1 hb1 hbq
    by_cases e1 : n = s.length
    · have b1 : ((n : Int) != (s.length : Int)) = false := by rw [neq_dec, decide_eq_true e1]; rfl
      have HE1 := hid e1
      clear e1
      go_wp2_with fail
      refine (HA2.out _ B1).mono ?_
      rintro e w2 ⟨a4, c4, rfl, ho2, hb2⟩
      have B2 := B1.trans (hb2.mono B1.size)
      have t1 := kept_cell B2 hPl r1
      clear ho2 hb2
      by_cases e2 : m = l.length
      · have b2 : ((m : Int) != (l.length : Int)) = false := by rw [neq_dec, decide_eq_true e2]; rfl
        have HX := hid (H0.out HQ.out HE1.out e2)
        clear e2
        go_wp2
        go_ret
        exact ⟨by rw [hf.out, HX.out]; rfl, B2⟩
      · have b2 : ((m : Int) != (l.length : Int)) = true := by rw [neq_dec, decide_eq_false e2]; rfl
        have HX := hid (H2.out HQ.out HE1.out e2)
        clear e2
        go_wp2
        go_ret
        exact ⟨by rw [hf.out, HX.out]; rfl, B2⟩
    · have b1 : ((n : Int) != (s.length : Int)) = true := by rw [neq_dec, decide_eq_false e1]; rfl
      have HX := hid (H1.out HQ.out e1)
      clear e1
      go_wp2
      go_ret
      exact ⟨by rw [hf.out, HX.out]; rfl, B1⟩
end Jn
end Go.Proofs.YtccklgopcjilcaaGreatDoor
/- A journal's fault, asked of the specification at a pointer into a world. -/
namespace Go.Proofs.YtccklgopcjilcaaGreatDoor
open Go.RowKit
set_option linter.unusedVariables false
namespace Jn
set_option maxRecDepth 100000 in
set_option maxHeartbeats 4000000 in
theorem specFaultW (B P : Nat) (y0 y1 y2 y3 : Value) (T : TypeId) (s l : List UInt8) (v1 v2 : Value) (w : World) (h1 : s.length ≤ 1048576) (h2 : l.length ≤ 1048576) (hB : B ≤ w.heap.size) (ha1 : At w B v1 s) (ha2 : At w B v2 l)
    (hP : w.heap[P]? = some (.cells #[y0, y1, y2, y3, v1, v2] T (0, 0))) :
    Calls Tryz.prog 106 #[.pointer (some ⟨P, 4, none⟩)] w fun e w' => e = .returned (.int .i64 (jF s l)) ∧ Below w.heap.size w w' := by
  obtain ⟨a1, c1, rfl, _⟩ := ha1.slice
  obtain ⟨a2, c2, rfl, _⟩ := ha2.slice
  have HA1 := hid (fun w' (hb : Below w.heap.size w w') => specLines B s _ w' h1 (Nat.le_trans hB hb.size) (ha1.below hb hB))
  have HA2 := hid (fun w' (hb : Below w.heap.size w w') => specLines B l _ w' h2 (Nat.le_trans hB hb.size) (ha2.below hb hB))
  have HP := hid hP
  have hPl := blk_lt hP
  have r0 := blk_cell hP (o := 4) (v := .slice a1 s.length c1) rfl
  have r1 := blk_cell hP (o := 5) (v := .slice a2 l.length c2) rfl
  have HM := hid (fun h => jF_many (s := s) (l := l) h)
  have H1 := hid (fun h h1 => jF_one (s := s) (l := l) h h1)
  have H2 := hid (fun h h1 h2 => jF_two (s := s) (l := l) h h1 h2)
  have H0 := hid (fun h h1 h2 => jF_ok (s := s) (l := l) h h1 h2)
  obtain ⟨f, hf⟩ : ∃ f, Hid (f = jF s l) := ⟨_, hid rfl⟩
  rw [← hf.out]
  unfold LPost at HA1 HA2
  generalize (readL s).2 = n at *
  generalize (readL s).1 = ls at *
  generalize (readL l).2 = m at *
  generalize (readL l).1 = ks at *
  have hbd : Below w.heap.size w w.drew := (Below.refl _ w).drew
  clear ha1 ha2 hP
  by_cases q : 2400 < s.length + l.length
  · have HX := hid (HM.out q)
    have p1 : (2400 : Int) < (s.length : Int) + (l.length : Int) := by omega
    clear q
    go_enter Tryz.func106, Tryz.ntmps106
    go_wp2
    go_quiet (fail)
    go_wp2
    go_ret
    exact ⟨by rw [hf.out, HX.out]; rfl, below_drewN (Below.refl _ _) _⟩
  · have p1 : ¬ (2400 : Int) < (s.length : Int) + (l.length : Int) := by omega
    have p1d : decide ((2400 : Int) < (s.length : Int) + (l.length : Int)) = false := decide_eq_false p1
    have HQ := hid q
    clear q
    go_enter Tryz.func106, Tryz.ntmps106
    go_wp2
    go_quiet (fail)
    go_wp2_with fail
    have hbq : Below w.heap.size w (w.drewN nq) := below_drewN (Below.refl _ _) nq
    refine (HA1.out _ hbq).mono ?_
    rintro e w1 ⟨a3, c3, rfl, ho1, hb1⟩
    have B1 := hbq.trans (hb1.mono hbq.size)
    have s0 := kept_cell B1 hPl r0
    have s1 := kept_cell B1 hPl r1
    clear ho1 hb1 hbq
    by_cases e1 : n = s.length
    · have b1 : ((n : Int) != (s.length : Int)) = false := by rw [neq_dec, decide_eq_true e1]; rfl
      have HE1 := hid e1
      clear e1
      go_wp2_with fail
      refine (HA2.out _ B1).mono ?_
      rintro e w2 ⟨a4, c4, rfl, ho2, hb2⟩
      have B2 := B1.trans (hb2.mono B1.size)
      have t1 := kept_cell B2 hPl r1
      clear ho2 hb2
      by_cases e2 : m = l.length
      · have b2 : ((m : Int) != (l.length : Int)) = false := by rw [neq_dec, decide_eq_true e2]; rfl
        have HX := hid (H0.out HQ.out HE1.out e2)
        clear e2
        go_wp2
        go_ret
        exact ⟨by rw [hf.out, HX.out]; rfl, B2⟩
      · have b2 : ((m : Int) != (l.length : Int)) = true := by rw [neq_dec, decide_eq_false e2]; rfl
        have HX := hid (H2.out HQ.out HE1.out e2)
        clear e2
        go_wp2
        go_ret
        exact ⟨by rw [hf.out, HX.out]; rfl, B2⟩
    · have b1 : ((n : Int) != (s.length : Int)) = true := by rw [neq_dec, decide_eq_false e1]; rfl
      have HX := hid (H1.out HQ.out e1)
      clear e1
      go_wp2
      go_ret
      exact ⟨by rw [hf.out, HX.out]; rfl, B1⟩
end Jn
end Go.Proofs.YtccklgopcjilcaaGreatDoor
/- A chart under way in the program's memory: one block of 55 cells. -/
namespace Go.Proofs.YtccklgopcjilcaaGreatDoor
open Go.RowKit Go.Deep
set_option linter.unusedVariables false
namespace Kc
open Ex (inR evalCode evalVal vFault hid)
open St (StepD)
open Ch (RunD)
open Pf
def kval (u : Value) (s : CS) (j : Nat) : Value :=
  if j = 0 then u else if j = 1 then .int .i64 s.status else if j = 2 then .int .i64 s.now else if j < 7 then .int .i64 (s.vars.getD (j - 3) 0) else if j < 31 then .int .i64 (s.acts (j - 7)) else .int .i64 (s.dues (j - 31))
def kcs (u : Value) (s : CS) : List Value := (List.range 55).map (kval u s)
theorem kcs_len (u : Value) (s : CS) : (kcs u s).length = 55 := by simp [kcs]
theorem kcs_get {u : Value} {s : CS} {j : Nat} (h : j < 55) : (kcs u s)[j]? = some (kval u s j) := by
  unfold kcs
  rw [List.getElem?_map, List.getElem?_range h]
  rfl
theorem kcs_set {u : Value} {s s' : CS} {j : Nat} {v : Value} (h1 : j < 55) (h : ∀ i, i < 55 → kval u s' i = if j = i then v else kval u s i) : (kcs u s).set j v = kcs u s' := by
  refine List.ext_getElem? fun i => ?_
  rw [List.getElem?_set, kcs_len]
  rcases Nat.lt_or_ge i 55 with hi | hi
  · rw [kcs_get hi, kcs_get hi, h i hi]
    split <;> rfl
  · rw [if_neg (by omega), List.getElem?_eq_none (by rw [kcs_len]; exact hi), List.getElem?_eq_none (by rw [kcs_len]; exact hi)]
structure KAt (wg w : World) (R : Nat) (u : Value) (ss : List StepD) (s : CS) : Prop where
  st : PAt wg ss u
  cap : capOk u
  bel : Below wg.heap.size wg w
  old : wg.heap.size ≤ R
  blk : w.heap[R]? = some (.cells (kcs u s).toArray 129)
  len : s.vars.length = 4
  pad : ∀ i, ss.length ≤ i → s.acts i = 0 ∧ s.dues i = 0
theorem KAt.below {wg w w' : World} {R : Nat} {u : Value} {ss : List StepD} {s : CS} (h : KAt wg w R u ss s) (hb : Below w.heap.size w w') : KAt wg w' R u ss s :=
  ⟨h.st, h.cap, h.bel.trans (hb.mono h.bel.size), h.old, (hb.block R (Array.getElem?_eq_some_iff.1 h.blk).1).trans h.blk, h.len, h.pad⟩
theorem KAt.lt {wg w : World} {R : Nat} {u : Value} {ss : List StepD} {s : CS} (h : KAt wg w R u ss s) : R < w.heap.size := (Array.getElem?_eq_some_iff.1 h.blk).1
theorem KAt.cell {wg w : World} {R : Nat} {u : Value} {ss : List StepD} {s : CS} (h : KAt wg w R u ss s) {j : Nat} (hj : j < 55) : w.cell? ⟨R, j, none⟩ = some (kval u s j) := by
  have := kcs_get (u := u) (s := s) hj
  simp only [World.cell?, h.blk, Option.isSome_none, Bool.false_eq_true, if_false]
  simpa using this
theorem KAt.free {wg w : World} {R : Nat} {u : Value} {ss : List StepD} {s : CS} (h : KAt wg w R u ss s) (j : Nat) : w.frozen? ⟨R, j, none⟩ = false := by simp [World.frozen?, h.blk]
theorem KAt.c0 {wg w : World} {R : Nat} {u : Value} {ss : List StepD} {s : CS} (h : KAt wg w R u ss s) : w.cell? ⟨R, 0, none⟩ = some u := h.cell (by decide)
theorem KAt.c1 {wg w : World} {R : Nat} {u : Value} {ss : List StepD} {s : CS} (h : KAt wg w R u ss s) : w.cell? ⟨R, 1, none⟩ = some (.int .i64 s.status) := h.cell (by decide)
theorem KAt.c2 {wg w : World} {R : Nat} {u : Value} {ss : List StepD} {s : CS} (h : KAt wg w R u ss s) : w.cell? ⟨R, 2, none⟩ = some (.int .i64 s.now) := h.cell (by decide)
theorem KAt.cA {wg w : World} {R : Nat} {u : Value} {ss : List StepD} {s : CS} (h : KAt wg w R u ss s) {i : Nat} (hi : i < 24) : w.cell? ⟨R, 7 + i, none⟩ = some (.int .i64 (s.acts i)) := by
  rw [h.cell (by omega)]
  unfold kval
  rw [if_neg (by omega), if_neg (by omega), if_neg (by omega), if_neg (by omega), if_pos (by omega), Nat.add_sub_cancel_left]
theorem KAt.cD {wg w : World} {R : Nat} {u : Value} {ss : List StepD} {s : CS} (h : KAt wg w R u ss s) {i : Nat} (hi : i < 24) : w.cell? ⟨R, 31 + i, none⟩ = some (.int .i64 (s.dues i)) := by
  rw [h.cell (by omega)]
  unfold kval
  rw [if_neg (by omega), if_neg (by omega), if_neg (by omega), if_neg (by omega), if_neg (by omega), Nat.add_sub_cancel_left]
theorem KAt.cV {wg w : World} {R : Nat} {u : Value} {ss : List StepD} {s : CS} (h : KAt wg w R u ss s) {i : Nat} (hi : i < 4) : w.cell? ⟨R, 3 + i, none⟩ = some (.int .i64 (s.vars.getD i 0)) := by
  rw [h.cell (by omega)]
  unfold kval
  rw [if_neg (by omega), if_neg (by omega), if_neg (by omega), if_pos (by omega), Nat.add_sub_cancel_left]
theorem KAt.steps {wg w : World} {R : Nat} {u : Value} {ss : List StepD} {s : CS} (h : KAt wg w R u ss s) : PAt w ss u := h.st.below h.bel
set_option maxRecDepth 100000 in
set_option maxHeartbeats 1000000 in
theorem isOn (wg w : World) (R : Nat) (u : Value) (ss : List StepD) (s : CS) (k : Nat) (hk : k < 24) (h : KAt wg w R u ss s) :
    Calls Tryz.prog 165 #[.pointer (some ⟨R, 0, none⟩), .int .i64 (k : Int)] w fun e w' => e = .returned (.bool (s.acts k == 1)) ∧ w' = w := by
  have c := h.cA hk
  have q1 : (0 : Int) ≤ (k : Int) := by omega
  have q2 : (k : Int) < 24 := by omega
  clear h
  go_enter Tryz.func165, Tryz.ntmps165
  go_wp2
  go_ret
  exact ⟨rfl, rfl⟩
end Kc
end Go.Proofs.YtccklgopcjilcaaGreatDoor
/- A chart under way in the program's memory: what is written there. -/
namespace Go.Proofs.YtccklgopcjilcaaGreatDoor
open Go.RowKit Go.Deep
set_option linter.unusedVariables false
set_option linter.unusedSimpArgs false
namespace Kc
open Ex (inR evalCode evalVal vFault hid)
open St (StepD)
open Ch (RunD)
open Pf
def setL (cs : List Value) (o : Nat) : List Value → List Value
  | [] => cs
  | v :: r => setL (cs.set o v) (o + 1) r
theorem setL_len : ∀ (vs cs : List Value) (o : Nat), (setL cs o vs).length = cs.length
  | [], _, _ => rfl
  | v :: r, cs, o => by rw [setL, setL_len r]; simp
theorem setL_get : ∀ (vs cs : List Value) (o j : Nat), o + vs.length ≤ cs.length → (setL cs o vs)[j]? = if o ≤ j ∧ j < o + vs.length then vs[j - o]? else cs[j]?
  | [], cs, o, j, _ => by rw [setL, if_neg (by simp)]
  | v :: r, cs, o, j, h => by
    simp only [List.length_cons] at h
    rw [setL, setL_get r _ _ _ (by simp; omega), List.length_cons]
    by_cases h1 : j = o
    · subst h1
      rw [if_neg (by omega), if_pos (by omega), List.getElem?_set_self (by omega), Nat.sub_self]
      rfl
    · by_cases h2 : o + 1 ≤ j ∧ j < o + 1 + r.length
      · rw [if_pos h2, if_pos (by omega), show j - o = (j - (o + 1)) + 1 by omega]
        rfl
      · rw [if_neg h2, if_neg (by omega), List.getElem?_set_ne (by omega)]
theorem heap_setCells : ∀ (vs : List Value) (w : World) (b o : Nat) (cs : List Value) (t : TypeId), w.heap[b]? = some (.cells cs.toArray t) → (w.setCells b o vs).heap[b]? = some (.cells (setL cs o vs).toArray t)
  | [], w, b, o, cs, t, h => h
  | v :: r, w, b, o, cs, t, h => by
    rw [World.setCells, setL]
    refine heap_setCells r _ b (o + 1) (cs.set o v) t ?_
    have := Ch.blk_set (i := o) h v
    simpa only [List.setIfInBounds_toArray] using this
theorem heap_other : ∀ (vs : List Value) (w : World) (b o : Nat) {i : Nat}, i ≠ b → (w.setCells b o vs).heap[i]? = w.heap[i]?
  | [], w, b, o, i, _ => rfl
  | v :: r, w, b, o, i, h => by
    rw [World.setCells, heap_other r _ b (o + 1) h]
    exact Below.heap_setCell _ _ _ _ h
theorem size_setCells : ∀ (vs : List Value) (w : World) (b o : Nat), (w.setCells b o vs).heap.size = w.heap.size
  | [], w, b, o => rfl
  | v :: r, w, b, o => by rw [World.setCells, size_setCells r]; simp [World.setCell]
theorem below_setCells {B : Nat} {x : World} : ∀ (vs : List Value) (w : World) (b o : Nat), B ≤ b → Below B x w → Below B x (w.setCells b o vs)
  | [], w, b, o, _, h => h
  | v :: r, w, b, o, hb, h => by
    rw [World.setCells]
    exact below_setCells r _ b (o + 1) hb (h.setCell (p := ⟨b, o, none⟩) hb v)
/-- Only the chart's own block is written, and what is new. -/
structure Rides (R : Nat) (w w' : World) : Prop where
  os : w'.os = w.os
  tape : w'.tape = w.tape
  output : w'.output = w.output
  size : w.heap.size ≤ w'.heap.size
  block : ∀ b, b < w.heap.size → b ≠ R → w'.heap[b]? = w.heap[b]?
theorem Rides.of_below {R : Nat} {w w' : World} (h : Below w.heap.size w w') : Rides R w w' := ⟨h.os, h.tape, h.output, h.size, fun b hb _ => h.block b hb⟩
theorem Rides.trans {R : Nat} {a b c : World} (h : Rides R a b) (h' : Rides R b c) : Rides R a c :=
  ⟨h'.os.trans h.os, h'.tape.trans h.tape, h'.output.trans h.output, Nat.le_trans h.size h'.size, fun k hk hn => (h'.block k (Nat.lt_of_lt_of_le hk h.size) hn).trans (h.block k hk hn)⟩
theorem Rides.refl (R : Nat) (w : World) : Rides R w w := ⟨rfl, rfl, rfl, Nat.le_refl _, fun _ _ _ => rfl⟩
theorem Rides.set (R : Nat) (w : World) (o : Nat) (v : Value) : Rides R w (w.setCell ⟨R, o, none⟩ v) :=
  ⟨rfl, rfl, rfl, by simp [World.setCell], fun b hb hn => Below.heap_setCell _ _ _ _ hn⟩
theorem Rides.sets (R : Nat) : ∀ (vs : List Value) (w : World) (o : Nat), Rides R w (w.setCells R o vs)
  | [], w, o => Rides.refl R w
  | v :: r, w, o => (Rides.set R w o v).trans (Rides.sets R r _ (o + 1))
/-- From an old world on, where the block is newer, all is kept. -/
theorem Rides.below {R : Nat} {wg w w' : World} (h : Rides R w w') (hb : Below wg.heap.size wg w) (ho : wg.heap.size ≤ R) : Below wg.heap.size wg w' :=
  ⟨h.os.trans hb.os, h.tape.trans hb.tape, h.output.trans hb.output, Nat.le_trans hb.size h.size, fun b hb' => (h.block b (Nat.lt_of_lt_of_le hb' hb.size) (by omega)).trans (hb.block b hb')⟩
theorem kcs_setL {u : Value} {s s' : CS} {o : Nat} {vs : List Value} (h1 : o + vs.length ≤ 55) (h : ∀ j, j < 55 → some (kval u s' j) = if o ≤ j ∧ j < o + vs.length then vs[j - o]? else some (kval u s j)) : setL (kcs u s) o vs = kcs u s' := by
  refine List.ext_getElem? fun j => ?_
  rw [setL_get _ _ _ _ (by rw [kcs_len]; exact h1)]
  rcases Nat.lt_or_ge j 55 with hj | hj
  · rw [kcs_get hj, kcs_get hj, h j hj]
  · rw [if_neg (by omega), List.getElem?_eq_none (by rw [kcs_len]; exact hj), List.getElem?_eq_none (by rw [kcs_len]; exact hj)]
theorem KAt.puts {wg w : World} {R : Nat} {u : Value} {ss : List StepD} {s s' : CS} (h : KAt wg w R u ss s) {o : Nat} {vs : List Value} (h1 : o + vs.length ≤ 55) (hk : ∀ j, j < 55 → some (kval u s' j) = if o ≤ j ∧ j < o + vs.length then vs[j - o]? else some (kval u s j)) (hl : s'.vars.length = 4) (hpad : ∀ i, ss.length ≤ i → s'.acts i = 0 ∧ s'.dues i = 0) :
    KAt wg (w.setCells R o vs) R u ss s' :=
  ⟨h.st, h.cap, below_setCells _ _ _ _ h.old h.bel, h.old, by rw [heap_setCells _ _ _ _ _ _ h.blk, kcs_setL h1 hk], hl, hpad⟩
theorem KAt.put {wg w : World} {R : Nat} {u : Value} {ss : List StepD} {s s' : CS} (h : KAt wg w R u ss s) {o : Nat} {v : Value} (h1 : o < 55) (hk : ∀ j, j < 55 → kval u s' j = if o = j then v else kval u s j) (hl : s'.vars.length = 4) (hpad : ∀ i, ss.length ≤ i → s'.acts i = 0 ∧ s'.dues i = 0) :
    KAt wg (w.setCell ⟨R, o, none⟩ v) R u ss s' :=
  h.puts (o := o) (vs := [v]) (by simp; omega) (fun j hj => by
    rw [hk j hj]
    by_cases e : o = j
    · subst e; simp
    · rw [if_neg e, if_neg (by simp; omega)]) hl hpad
theorem kval_act {u : Value} {s : CS} {k : Nat} (hk : k < 24) (v : Int) {j : Nat} (hj : j < 55) : kval u (act s k v) j = if 7 + k = j then .int .i64 v else kval u s j := by
  unfold kval act upd
  by_cases e : 7 + k = j
  · subst e
    rw [if_pos rfl, if_neg (by omega), if_neg (by omega), if_neg (by omega), if_neg (by omega), if_pos (by omega)]
    simp
  · rw [if_neg e]
    by_cases h1 : j < 31
    · by_cases h2 : j < 7
      · simp [h2]
      · have : ¬ j - 7 = k := by omega
        simp [this]
    · simp [h1]
theorem kval_due {u : Value} {s : CS} {k : Nat} (hk : k < 24) (v : Int) {j : Nat} (hj : j < 55) : kval u (due s k v) j = if 31 + k = j then .int .i64 v else kval u s j := by
  unfold kval due upd
  by_cases e : 31 + k = j
  · subst e
    rw [if_pos rfl, if_neg (by omega), if_neg (by omega), if_neg (by omega), if_neg (by omega), if_neg (by omega)]
    simp
  · rw [if_neg e]
    by_cases h1 : j < 31
    · simp [h1]
    · have : ¬ j - 31 = k := by omega
      simp [this]
theorem KAt.act {wg w : World} {R : Nat} {u : Value} {ss : List StepD} {s : CS} (h : KAt wg w R u ss s) {k : Nat} (hk : k < ss.length) (hl : ss.length ≤ 24) (v : Int) : KAt wg (w.setCell ⟨R, 7 + k, none⟩ (.int .i64 v)) R u ss (act s k v) :=
  h.put (by omega) (fun j hj => kval_act (by omega) v hj) h.len (fun i hi => ⟨by show upd s.acts k v i = 0; unfold upd; rw [if_neg (by omega)]; exact (h.pad i hi).1, (h.pad i hi).2⟩)
theorem KAt.due {wg w : World} {R : Nat} {u : Value} {ss : List StepD} {s : CS} (h : KAt wg w R u ss s) {k : Nat} (hk : k < ss.length) (hl : ss.length ≤ 24) (v : Int) : KAt wg (w.setCell ⟨R, 31 + k, none⟩ (.int .i64 v)) R u ss (due s k v) :=
  h.put (by omega) (fun j hj => kval_due (by omega) v hj) h.len (fun i hi => ⟨(h.pad i hi).1, by show upd s.dues k v i = 0; unfold upd; rw [if_neg (by omega)]; exact (h.pad i hi).2⟩)
end Kc
end Go.Proofs.YtccklgopcjilcaaGreatDoor
/- The program's VarsFault. -/
namespace Go.Proofs.YtccklgopcjilcaaGreatDoor
open Go.RowKit
set_option linter.unusedVariables false
namespace Ex
open Nd (NodeD)
set_option maxRecDepth 100000 in
set_option maxHeartbeats 400000 in
theorem implBounded (x : Int) (w : World) : Calls Tryz.prog 237 #[.int .i64 x] w fun e w' => e = .returned (.bool (inR x (-1000000) 1000000)) ∧ w' = w := by
  by_cases h1 : -1000000 ≤ x
  · by_cases h2 : x ≤ 1000000
    · have HV : Hid (inR x (-1000000) 1000000 = true) := hid (inR_iff.2 ⟨h1, h2⟩)
      go_enter Tryz.func237, Tryz.ntmps237
      go_wp2
      go_ret
      exact ⟨by rw [HV.out]; rfl, rfl⟩
    · have HV : Hid (inR x (-1000000) 1000000 = false) := hid (inR_not.2 (by omega))
      go_enter Tryz.func237, Tryz.ntmps237
      go_wp2
      go_ret
      exact ⟨by rw [HV.out]; rfl, rfl⟩
  · have HV : Hid (inR x (-1000000) 1000000 = false) := hid (inR_not.2 (by omega))
    go_enter Tryz.func237, Tryz.ntmps237
    go_wp2
    go_ret
    exact ⟨by rw [HV.out]; rfl, rfl⟩
set_option maxRecDepth 100000 in
set_option maxHeartbeats 1000000 in
theorem implVars (B : Nat) (xs : List Int) (v : Value) (w : World) (hl : xs.length ≤ 1048576) (ha : Nu.At w B v xs) :
    Calls Tryz.prog 199 #[v] w fun e w' => e = .returned (.int .i64 (vFault xs)) ∧ w' = w := by
  obtain ⟨a, cap, rfl⟩ := ha.slice
  have HA := hid ha
  clear ha
  by_cases h4 : xs.length = 4
  · have b1 : ((xs.length : Int) != 4) = false := by simp [h4]
    have H4 := hid h4
    have hlt4 : xs.length ≤ 4 := by omega
    clear h4
    go_enter Tryz.func199, Tryz.ntmps199
    go_wp2
    go_loop [4, 10] (fun _ i => ∃ k : Nat, k ≤ xs.length ∧ i = .int .i64 k ∧ Hid (∀ j (h : j < xs.length), j < k → inR xs[j] (-1000000) 1000000 = true)) (fun _ i => xs.length - (intOf i).toNat)
    case atStart => exact ⟨0, Nat.zero_le _, rfl, fun j _ h => by omega⟩
    case round =>
      obtain ⟨k, hk, rfl, HJ⟩ := hrel
      by_cases hlt : k < xs.length
      · obtain ⟨g, o, rfl, hg, c0⟩ := HA.out.at hlt
        have q1 : (k : Int) < (xs.length : Int) := by omega
        have HI := hid (fun w' => implBounded xs[k] w')
        cases hin : inR xs[k] (-1000000) 1000000
        · have HV := hid (v_bad H4.out hlt hin)
          rw [hin] at HI
          clear hin
          go_wp2_with (go_at_call 237; refine (HI.out _).mono ?_; rintro e w' ⟨rfl, rfl⟩)
          go_ret
          exact ⟨by rw [HV.out]; rfl, rfl⟩
        · rw [hin] at HI
          have HJ2 : Hid (∀ j (h : j < xs.length), j < k + 1 → inR xs[j] (-1000000) 1000000 = true) := hid (fun j h hj => by
            by_cases e : j = k
            · subst e; exact hin
            · exact HJ.out j h (by omega))
          clear hin
          go_wp2_with (go_at_call 237; refine (HI.out _).mono ?_; rintro e w' ⟨rfl, rfl⟩)
          exact ⟨⟨k + 1, by omega, by simp, HJ2⟩, by simp [intOf]; omega⟩
      · have HV := hid (v_ok H4.out (fun j h => HJ.out j h (by omega)))
        go_wp2
        go_ret
        exact ⟨by rw [HV.out]; rfl, rfl⟩
  · have b1 : ((xs.length : Int) != 4) = true := by simp; omega
    have HV := hid (v_len h4)
    clear h4
    go_enter Tryz.func199, Tryz.ntmps199
    go_wp2
    go_ret
    exact ⟨by rw [HV.out]; rfl, rfl⟩
theorem implVarsB (B : Nat) (xs : List Int) (v : Value) (w : World) (hl : xs.length ≤ 1048576) (ha : Nu.At w B v xs) :
    Calls Tryz.prog 199 #[v] w fun e w' => e = .returned (.int .i64 (vFault xs)) ∧ Below w.heap.size w w' :=
  (implVars B xs v w hl ha).mono (fun e w' ⟨h1, h2⟩ => ⟨h1, by rw [h2]; exact Below.refl _ _⟩)
end Ex
end Go.Proofs.YtccklgopcjilcaaGreatDoor
