/- JournalFault, of the program and of the specification. No condition. -/
import Derived.Test.YtiliahibnhfhoaaJnN
import Derived.Test.YtiliahibnhfhoaaJnG
import Derived.Test.YtiliahibnhfhoaaJnQ
namespace Go.Proofs.Ytiliahibnhfhoaa
open Go.RowKit
set_option linter.unusedVariables false
namespace Jn
def jF (s l : List UInt8) : Int := if 2400 < s.length + l.length then 2 else if (readL s).2 = s.length then (if (readL l).2 = l.length then 0 else 5) else 5
theorem jF_many {s l : List UInt8} (h : 2400 < s.length + l.length) : jF s l = 2 := by unfold jF; rw [if_pos h]
theorem jF_one {s l : List UInt8} (h : ¬ 2400 < s.length + l.length) (h1 : ¬ (readL s).2 = s.length) : jF s l = 5 := by unfold jF; rw [if_neg h, if_neg h1]
theorem jF_two {s l : List UInt8} (h : ¬ 2400 < s.length + l.length) (h1 : (readL s).2 = s.length) (h2 : ¬ (readL l).2 = l.length) : jF s l = 5 := by unfold jF; rw [if_neg h, if_pos h1, if_neg h2]
theorem jF_ok {s l : List UInt8} (h : ¬ 2400 < s.length + l.length) (h1 : (readL s).2 = s.length) (h2 : (readL l).2 = l.length) : jF s l = 0 := by unfold jF; rw [if_neg h, if_pos h1, if_pos h2]
theorem of_jF {s l : List UInt8} (h : jF s l = 0) : s.length + l.length ≤ 2400 ∧ (readL s).2 = s.length ∧ (readL l).2 = l.length := by
  unfold jF at h
  by_cases h1 : 2400 < s.length + l.length
  · rw [if_pos h1] at h; cases h
  · rw [if_neg h1] at h
    by_cases h2 : (readL s).2 = s.length
    · rw [if_pos h2] at h
      by_cases h3 : (readL l).2 = l.length
      · exact ⟨by omega, h2, h3⟩
      · rw [if_neg h3] at h; cases h
    · rw [if_neg h2] at h; cases h
set_option maxRecDepth 100000 in
set_option maxHeartbeats 2000000 in
theorem implAlone (B : Nat) (d : List UInt8) (v : Value) (w : World) (hd : d.length ≤ 1048576) (hB : B ≤ w.heap.size) (ha : At w B v d) : Calls Try.prog 64 #[v] w fun e w' => e = .returned (.bool (decide ((readL d).2 = d.length))) ∧ Below w.heap.size w w' := by
  obtain ⟨a, c, rfl, hc⟩ := ha.slice
  have HL := hid (implLines B d _ w hd hB ha)
  unfold LPost at HL
  generalize (readL d).2 = n at *
  generalize (readL d).1 = ls at *
  have HQ : Hid (((n : Int) == (d.length : Int)) = decide (n = d.length)) := hid (by by_cases h : n = d.length <;> simp [h]; omega)
  clear ha
  go_enter Try.func64, Try.ntmps64
  go_wp2_with fail
  refine HL.out.mono ?_
  rintro e w1 ⟨a1, c1, rfl, ho, hb1⟩
  have HB1 := hid hb1
  clear hb1 ho
  go_wp2
  go_ret
  exact ⟨by rw [← HQ.out]; rfl, HB1.out⟩
set_option maxRecDepth 100000 in
set_option maxHeartbeats 4000000 in
theorem implJFault (B : Nat) (s l : List UInt8) (v1 v2 : Value) (w : World) (h1 : s.length ≤ 1048576) (h2 : l.length ≤ 1048576) (hB : B ≤ w.heap.size) (ha1 : At w B v1 s) (ha2 : At w B v2 l) :
    Calls Try.prog 31 #[.agg #[v1, v2]] w fun e w' => e = .returned (.int .i64 (jF s l)) ∧ Below w.heap.size w w' := by
  obtain ⟨a1, c1, rfl, _⟩ := ha1.slice
  obtain ⟨a2, c2, rfl, _⟩ := ha2.slice
  have hb0 : Below w.heap.size w (w.alloc (.cells #[.slice a1 s.length c1, .slice a2 l.length c2] 44)) := (Below.refl _ w).alloc (Nat.le_refl _) _
  have HA1 := hid (fun w' (hb : Below w.heap.size w w') => implAlone B s _ w' h1 (Nat.le_trans hB hb.size) (ha1.below hb hB))
  have HA2 := hid (fun w' (hb : Below w.heap.size w w') => implAlone B l _ w' h2 (Nat.le_trans hB hb.size) (ha2.below hb hB))
  have HB0 := hid hb0
  have HM := hid (fun h => jF_many (s := s) (l := l) h)
  have H1 := hid (fun h h1 => jF_one (s := s) (l := l) h h1)
  have H2 := hid (fun h h1 h2 => jF_two (s := s) (l := l) h h1 h2)
  have H0 := hid (fun h h1 h2 => jF_ok (s := s) (l := l) h h1 h2)
  obtain ⟨f, hf⟩ : ∃ f, Hid (f = jF s l) := ⟨_, hid rfl⟩
  rw [← hf.out]
  clear hb0 ha1 ha2
  by_cases q : 2400 < s.length + l.length
  · have HX := hid (HM.out q)
    by_cases q1 : 2400 < s.length
    · have p1 : (2400 : Int) < (s.length : Int) := by omega
      clear q q1
      go_enter Try.func31, Try.ntmps31
      go_wp2
      go_ret
      exact ⟨by rw [hf.out, HX.out]; rfl, HB0.out⟩
    · have p1 : ¬ (2400 : Int) < (s.length : Int) := by omega
      have p2 : (2400 : Int) - (s.length : Int) < (l.length : Int) := by omega
      clear q q1
      go_enter Try.func31, Try.ntmps31
      go_wp2
      go_ret
      exact ⟨by rw [hf.out, HX.out]; rfl, HB0.out⟩
  · have p1 : ¬ (2400 : Int) < (s.length : Int) := by omega
    have p2 : ¬ (2400 : Int) - (s.length : Int) < (l.length : Int) := by omega
    have HQ := hid q
    clear q
    by_cases e1 : (readL s).2 = s.length
    · have HE1 := hid e1
      rw [decide_eq_true e1] at HA1
      by_cases e2 : (readL l).2 = l.length
      · have HX := hid (H0.out HQ.out e1 e2)
        rw [decide_eq_true e2] at HA2
        clear e1 e2
        go_enter Try.func31, Try.ntmps31
        go_wp2_with fail
        refine (HA1.out _ HB0.out).mono ?_
        rintro e w1 ⟨rfl, hb1⟩
        have B1 := HB0.out.trans (hb1.mono HB0.out.size)
        simp only [World.size_alloc] at hb1
        have t1 := kept_cell hb1 (b := w.heap.size) (o := 1) (v := .slice a2 l.length c2) (by omega) (by go_simp)
        clear hb1
        go_wp2_with fail
        refine (HA2.out _ B1).mono ?_
        rintro e w2 ⟨rfl, hb2⟩
        have B2 := B1.trans (hb2.mono B1.size)
        clear hb2
        go_wp2
        go_ret
        exact ⟨by rw [hf.out, HX.out]; rfl, B2⟩
      · have HX := hid (H2.out HQ.out e1 e2)
        rw [decide_eq_false e2] at HA2
        clear e1 e2
        go_enter Try.func31, Try.ntmps31
        go_wp2_with fail
        refine (HA1.out _ HB0.out).mono ?_
        rintro e w1 ⟨rfl, hb1⟩
        have B1 := HB0.out.trans (hb1.mono HB0.out.size)
        simp only [World.size_alloc] at hb1
        have t1 := kept_cell hb1 (b := w.heap.size) (o := 1) (v := .slice a2 l.length c2) (by omega) (by go_simp)
        clear hb1
        go_wp2_with fail
        refine (HA2.out _ B1).mono ?_
        rintro e w2 ⟨rfl, hb2⟩
        have B2 := B1.trans (hb2.mono B1.size)
        clear hb2
        go_wp2
        go_ret
        exact ⟨by rw [hf.out, HX.out]; rfl, B2⟩
    · have HX := hid (H1.out HQ.out e1)
      rw [decide_eq_false e1] at HA1
      clear e1
      go_enter Try.func31, Try.ntmps31
      go_wp2_with fail
      refine (HA1.out _ HB0.out).mono ?_
      rintro e w1 ⟨rfl, hb1⟩
      have B1 := HB0.out.trans (hb1.mono HB0.out.size)
      clear hb1
      go_wp2
      go_ret
      exact ⟨by rw [hf.out, HX.out]; rfl, B1⟩
theorem neq_dec (n m : Nat) : ((n : Int) != (m : Int)) = !decide (n = m) := by
  by_cases h : n = m
  · simp [h]
  · rw [decide_eq_false h, bne, beq_eq_false_iff_ne.2 (by omega)]
set_option maxRecDepth 100000 in
set_option maxHeartbeats 4000000 in
theorem specFaultAt (B P : Nat) (s l : List UInt8) (v1 v2 : Value) (w : World) (h1 : s.length ≤ 1048576) (h2 : l.length ≤ 1048576) (hB : B ≤ w.heap.size) (ha1 : At w B v1 s) (ha2 : At w B v2 l)
    (hP : w.heap[P]? = some (.cells #[v1, v2] 44 (0, 0))) :
    Calls Try.prog 63 #[.pointer (some ⟨P, 0, none⟩)] w fun e w' => e = .returned (.int .i64 (jF s l)) ∧ Below w.heap.size w w' := by
  obtain ⟨a1, c1, rfl, _⟩ := ha1.slice
  obtain ⟨a2, c2, rfl, _⟩ := ha2.slice
  have HA1 := hid (fun w' (hb : Below w.heap.size w w') => specLines B s _ w' h1 (Nat.le_trans hB hb.size) (ha1.below hb hB))
  have HA2 := hid (fun w' (hb : Below w.heap.size w w') => specLines B l _ w' h2 (Nat.le_trans hB hb.size) (ha2.below hb hB))
  have HP := hid hP
  have hPl := blk_lt hP
  have r0 := blk_cell hP (o := 0) (v := .slice a1 s.length c1) rfl
  have r1 := blk_cell hP (o := 1) (v := .slice a2 l.length c2) rfl
  have HM := hid (fun h => jF_many (s := s) (l := l) h)
  have H1 := hid (fun h h1 => jF_one (s := s) (l := l) h h1)
  have H2 := hid (fun h h1 h2 => jF_two (s := s) (l := l) h h1 h2)
  have H0 := hid (fun h h1 h2 => jF_ok (s := s) (l := l) h h1 h2)
  obtain ⟨f, hf⟩ : ∃ f, Hid (f = jF s l) := ⟨_, hid rfl⟩
  rw [← hf.out]
  unfold LPost at HA1 HA2
  generalize (readL s).2 = n at *
  generalize (readL s).1 = ls at *
  generalize (readL l).2 = m at *
  generalize (readL l).1 = ks at *
  have hbd : Below w.heap.size w w.drew := (Below.refl _ w).drew
  clear ha1 ha2 hP
  by_cases q : 2400 < s.length + l.length
  · have HX := hid (HM.out q)
    have p1 : (2400 : Int) < (s.length : Int) + (l.length : Int) := by omega
    clear q
    go_enter Try.func63, Try.ntmps63
    go_wp2
    go_quiet (fail)
    go_wp2
    go_ret
    exact ⟨by rw [hf.out, HX.out]; rfl, below_drewN (Below.refl _ _) _⟩
  · have p1 : ¬ (2400 : Int) < (s.length : Int) + (l.length : Int) := by omega
    have p1d : decide ((2400 : Int) < (s.length : Int) + (l.length : Int)) = false := decide_eq_false p1
    have HQ := hid q
    clear q
    go_enter Try.func63, Try.ntmps63
    go_wp2
    go_quiet (fail)
    go_wp2_with fail
    have hbq : Below w.heap.size w (w.drewN nq) := below_drewN (Below.refl _ _) nq
    refine (HA1.out _ hbq).mono ?_
    rintro e w1 ⟨a3, c3, rfl, ho1, hb1⟩
    have B1 := hbq.trans (hb1.mono hbq.size)
    have s0 := kept_cell B1 hPl r0
    have s1 := kept_cell B1 hPl r1
    clear ho1 hb1 hbq
    by_cases e1 : n = s.length
    · have b1 : ((n : Int) != (s.length : Int)) = false := by rw [neq_dec, decide_eq_true e1]; rfl
      have HE1 := hid e1
      clear e1
      go_wp2_with fail
      refine (HA2.out _ B1).mono ?_
      rintro e w2 ⟨a4, c4, rfl, ho2, hb2⟩
      have B2 := B1.trans (hb2.mono B1.size)
      have t1 := kept_cell B2 hPl r1
      clear ho2 hb2
      by_cases e2 : m = l.length
      · have b2 : ((m : Int) != (l.length : Int)) = false := by rw [neq_dec, decide_eq_true e2]; rfl
        have HX := hid (H0.out HQ.out HE1.out e2)
        clear e2
        go_wp2
        go_ret
        exact ⟨by rw [hf.out, HX.out]; rfl, B2⟩
      · have b2 : ((m : Int) != (l.length : Int)) = true := by rw [neq_dec, decide_eq_false e2]; rfl
        have HX := hid (H2.out HQ.out HE1.out e2)
        clear e2
        go_wp2
        go_ret
        exact ⟨by rw [hf.out, HX.out]; rfl, B2⟩
    · have b1 : ((n : Int) != (s.length : Int)) = true := by rw [neq_dec, decide_eq_false e1]; rfl
      have HX := hid (H1.out HQ.out e1)
      clear e1
      go_wp2
      go_ret
      exact ⟨by rw [hf.out, HX.out]; rfl, B1⟩
theorem specJFault (B : Nat) (s l : List UInt8) (v1 v2 : Value) (w : World) (h1 : s.length ≤ 1048576) (h2 : l.length ≤ 1048576) (hB : B ≤ w.heap.size) (ha1 : At w B v1 s) (ha2 : At w B v2 l) :
    Calls Try.prog 29 #[.agg #[v1, v2]] w fun e w' => e = .returned (.int .i64 (jF s l)) ∧ Below w.heap.size w w' := by
  obtain ⟨a1, c1, rfl, _⟩ := ha1.slice
  obtain ⟨a2, c2, rfl, _⟩ := ha2.slice
  have hb0 : Below w.heap.size w (w.alloc (.cells #[.slice a1 s.length c1, .slice a2 l.length c2] 44)) := (Below.refl _ w).alloc (Nat.le_refl _) _
  have HF := hid (specFaultAt B w.heap.size s l _ _ _ h1 h2 (Nat.le_trans hB hb0.size) (ha1.below hb0 hB) (ha2.below hb0 hB) (heap_alloc_new w _))
  have HB0 := hid hb0
  generalize jF s l = f at *
  clear ha1 ha2 hb0
  go_enter Try.func29, Try.ntmps29
  go_wp2_with fail
  refine HF.out.mono ?_
  rintro e w1 ⟨rfl, hb1⟩
  have B1 := HB0.out.trans (hb1.mono HB0.out.size)
  clear hb1
  go_wp2
  go_ret
  exact ⟨rfl, B1⟩
end Jn
end Go.Proofs.Ytiliahibnhfhoaa
