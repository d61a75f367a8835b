/- ReadLines, of the program and of the specification. No condition. -/
import Derived.Test.YtiliahibnhfhoaaJnN
import Derived.Test.YtiliahibnhfhoaaJnG
namespace Go.Proofs.Ytiliahibnhfhoaa
open Go.RowKit
set_option linter.unusedVariables false
namespace Jn
def hasTo (e : List UInt8) (j : Nat) : Bool := (List.range j).any fun i => decide (0 < oneN (e.drop i))
def hasB (e : List UInt8) : Bool := hasTo e e.length
def brokenC (d : List UInt8) : Bool := hasB (d.drop ((readL d).2 + 1))
theorem hasTo_succ (e : List UInt8) (j : Nat) : hasTo e (j + 1) = (hasTo e j || decide (0 < oneN (e.drop j))) := by
  unfold hasTo
  rw [List.range_succ, List.any_append]
  simp
theorem hasTo_mono {e : List UInt8} {j : Nat} (h : j ≤ e.length) (hj : hasTo e j = true) : hasB e = true := by
  unfold hasB hasTo at *
  obtain ⟨i, hi, hb⟩ := List.any_eq_true.1 hj
  exact List.any_eq_true.2 ⟨i, List.mem_range.2 (Nat.lt_of_lt_of_le (List.mem_range.1 hi) h), hb⟩
theorem hasB_nil {e : List UInt8} (h : e.length = 0) : hasB e = false := by unfold hasB hasTo; rw [h]; rfl
set_option maxRecDepth 100000 in
set_option maxHeartbeats 4000000 in
theorem implHas (B : Nat) (d : List UInt8) (v : Value) (w : World) (hd : d.length ≤ 1048576) (hB : B ≤ w.heap.size) (ha : At w B v d) : Calls Try.prog 58 #[v] w fun e w' => e = .returned (.bool (hasB d)) ∧ Below w.heap.size w w' := by
  obtain ⟨a, c, rfl, hc⟩ := ha.slice
  have HA := hid ha
  clear ha
  obtain ⟨b, hb⟩ : ∃ b, Hid (b = hasB d) := ⟨_, hid rfl⟩
  rw [← hb.out]
  go_enter Try.func58, Try.ntmps58
  go_wp2
  go_loopw [8] (fun q wr => ∃ k : Nat, q = .int .i64 (k : Int) ∧ k ≤ d.length ∧ Hid (hasTo d k = false) ∧ Hid (Below w.heap.size w wr)) (fun q _ => d.length - (intOf q).toNat)
  case atStart => exact ⟨0, rfl, Nat.zero_le _, hid rfl, hid (Below.refl _ _)⟩
  case round =>
    obtain ⟨k, rfl, hk, HT, HBR⟩ := hrel
    by_cases hlt : k < d.length
    · have q1 : (k : Int) < (d.length : Int) := by omega
      obtain ⟨a6, c6, hsl, hat⟩ := (HA.out.below HBR.out hB).from k hk
      have HPA := hid (implAhead B (d.drop k) _ wr (by rw [List.length_drop]; omega) (Nat.le_trans hB HBR.out.size) (by have := hat; exact this))
      have HS := hid (hasTo_succ d k)
      have HMN := hid (hasTo_mono (e := d) (j := k + 1) (by omega))
      unfold OPost at HPA
      generalize oneN (d.drop k) = n at *
      generalize oneS (d.drop k) = z at *
      clear hat
      go_wp2_with fail
      refine HPA.out.mono ?_
      rintro e w1 ⟨rfl, hb1⟩
      have HB1 := hid (HBR.out.trans (hb1.mono HBR.out.size))
      clear hb1 hsl
      by_cases hz0 : 0 < n
      · have q2 : (0 : Int) < (n : Int) := by omega
        have HX := hid (HMN.out (by rw [HS.out, decide_eq_true hz0, Bool.or_true]))
        clear hz0
        go_wp2
        go_ret
        exact ⟨by rw [hb.out, HX.out]; rfl, HB1.out⟩
      · have q2 : ¬ (0 : Int) < (n : Int) := by omega
        have HX : Hid (hasTo d (k + 1) = false) := hid (by rw [HS.out, decide_eq_false hz0, HT.out]; rfl)
        clear hz0
        go_wp2
        exact ⟨⟨k + 1, by simp, by omega, HX, HB1⟩, by simp [intOf]; omega⟩
    · have q1 : ¬ (k : Int) < (d.length : Int) := by omega
      have HX : Hid (hasB d = false) := hid (by
        have hkd : k = d.length := by omega
        have h := HT.out
        rw [hkd] at h
        exact h)
      go_wp2
      go_ret
      exact ⟨by rw [hb.out, HX.out]; rfl, HBR.out⟩
/-- The lines of bytes: a code, whether they are broken, the lines. -/
def linesC (d : List UInt8) : Int := if 2400 < d.length then 2 else 0
def linesB (d : List UInt8) : Bool := if 2400 < d.length then false else brokenC d
def linesL (d : List UInt8) : List (List UInt8) := if 2400 < d.length then [] else (readL d).1
def QPost (d : List UInt8) (w : World) (e : Ending) (w' : World) : Prop := ∃ a c, e = .returned (.agg #[.int .i64 (linesC d), .bool (linesB d), .slice a (linesL d).length c]) ∧ Os w' w.heap.size (.slice a (linesL d).length c) (linesL d) ∧ Below w.heap.size w w'
theorem lines_many {d : List UInt8} (h : 2400 < d.length) : linesC d = 2 ∧ linesB d = false ∧ linesL d = [] := by unfold linesC linesB linesL; rw [if_pos h, if_pos h, if_pos h]; exact ⟨rfl, rfl, rfl⟩
theorem lines_ok {d : List UInt8} (h : ¬ 2400 < d.length) : linesC d = 0 ∧ linesB d = brokenC d ∧ linesL d = (readL d).1 := by unfold linesC linesB linesL; rw [if_neg h, if_neg h, if_neg h]; exact ⟨rfl, rfl, rfl⟩
theorem retQ {c c' : Int} {b b' : Bool} {v v' : Value} (h : c = c') (h2 : b = b') (h3 : v = v') : Ending.returned (.agg #[.int .i64 c, .bool b, v]) = .returned (.agg #[.int .i64 c', .bool b', v']) := by rw [h, h2, h3]
theorem qpost_many {d : List UInt8} (h : 2400 < d.length) {w w' : World} {e : Ending} (he : e = .returned (.agg #[.int .i64 2, .bool false, .slice none 0 0])) (hb : Below w.heap.size w w') : QPost d w e w' := by
  obtain ⟨h1, h2, h3⟩ := lines_many h
  refine ⟨none, 0, by rw [he, h1, h2, h3]; rfl, ?_, hb⟩
  rw [h3]
  exact os_nil _ _
theorem qpost_ok {d : List UInt8} (h : ¬ 2400 < d.length) {ls : List (List UInt8)} {b : Bool} (hl : ls = (readL d).1) (hbk : b = brokenC d) {w w' : World} {e : Ending} {a : Option Addr} {c : Nat} (he : e = .returned (.agg #[.int .i64 0, .bool b, .slice a ls.length c])) (ho : Os w' w.heap.size (.slice a ls.length c) ls) (hb : Below w.heap.size w w') : QPost d w e w' := by
  obtain ⟨h1, h2, h3⟩ := lines_ok h
  subst hl
  refine ⟨a, c, by rw [he, h1, h2, h3, hbk], ?_, hb⟩
  rw [h3]
  exact ho
set_option maxRecDepth 100000 in
set_option maxHeartbeats 4000000 in
theorem implRead (B : Nat) (d : List UInt8) (v : Value) (w : World) (hd : d.length ≤ 1048576) (hB : B ≤ w.heap.size) (ha : At w B v d) : Calls Try.prog 22 #[v] w (QPost d w) := by
  obtain ⟨a, c, rfl, hc⟩ := ha.slice
  have hb0 : Below w.heap.size w (w.alloc (.cells #[.int .i64 0, .bool false, .slice none 0 0] 32)) := (Below.refl _ w).alloc (Nat.le_refl _) _
  have HA := hid ha
  clear ha
  obtain ⟨R, hR⟩ : ∃ R, Hid (R = QPost d w) := ⟨_, hid rfl⟩
  rw [← hR.out]
  by_cases h0 : 2400 < d.length
  · have q1 : (2400 : Int) < (d.length : Int) := by omega
    have HX := hid h0
    clear h0 hb0
    go_enter Try.func22, Try.ntmps22
    go_wp2
    refine bodyPost_ret (v := .agg #[.int .i64 2, .bool false, .slice none 0 0]) (by simp [results, Try.results22, go_sem]) rfl ?_
    rw [hR.out]
    exact qpost_many HX.out rfl ((Below.refl _ w).alloc (Nat.le_refl _) _)
  · have q1 : ¬ (2400 : Int) < (d.length : Int) := by omega
    have HX := hid h0
    have HL := hid (implLines B d _ _ hd (Nat.le_trans hB hb0.size) (HA.out.below hb0 hB))
    have HB0 := hid hb0
    have hrl := readL_le d
    obtain ⟨ls, hls⟩ : ∃ ls, Hid (ls = (readL d).1) := ⟨_, hid rfl⟩
    obtain ⟨n, hn⟩ : ∃ n, Hid (n = (readL d).2) := ⟨_, hid rfl⟩
    obtain ⟨b, hb⟩ : ∃ b, Hid (b = brokenC d) := ⟨_, hid rfl⟩
    have HBC : Hid (b = hasB (d.drop (n + 1))) := hid (by rw [hb.out, hn.out]; rfl)
    unfold LPost at HL
    rw [← hls.out, ← hn.out] at HL
    rw [← hn.out] at hrl
    clear h0 hb0
    go_enter Try.func22, Try.ntmps22
    go_wp2_with fail
    refine HL.out.mono ?_
    rintro e w1 ⟨a1, c1, rfl, ho, hb1⟩
    simp only [World.size_alloc] at hb1 ho
    have r0 := kept_cell hb1 (b := w.heap.size) (o := 0) (v := .int .i64 0) (by omega) (by go_simp)
    have r1 := kept_cell hb1 (b := w.heap.size) (o := 1) (v := .bool false) (by omega) (by go_simp)
    have r2 := kept_cell hb1 (b := w.heap.size) (o := 2) (v := .slice none 0 0) (by omega) (by go_simp)
    have f0 := kept_free hb1 (b := w.heap.size) (o := 0) (by omega) (by go_simp)
    have f1 := kept_free hb1 (b := w.heap.size) (o := 1) (by omega) (by go_simp)
    have f2 := kept_free hb1 (b := w.heap.size) (o := 2) (by omega) (by go_simp)
    have l1 : w.heap.size < w1.heap.size := by have := hb1.size; simp at this; omega
    have B1 := HB0.out.trans (hb1.mono (by omega))
    have HO := hid ho
    clear ho hb1
    by_cases hlt : n < d.length
    · have q2 : (n : Int) < (d.length : Int) := by omega
      obtain ⟨a6, c6, hsl, hat⟩ := (HA.out.below B1 hB).from (n + 1) (by omega)
      have hsl2 : ∀ w' : World, Sem.run Try.prog (Instr.slice 24 (.slice a d.length c) (some (.int .i64 ((n : Int) + 1))) none none) w' = .ok (.slice a6 (d.length - (n + 1)) c6) w' := hsl
      have HH := hid (implHas B (d.drop (n + 1)) _ w1 (by rw [List.length_drop]; omega) (by omega) hat)
      rw [← HBC.out] at HH
      have hB1 := hid B1
      clear hsl hat B1
      go_wp2_with fail
      refine HH.out.mono ?_
      rintro e w2 ⟨rfl, hb2⟩
      have s0 := kept_cell hb2 l1 r0
      have s1 := kept_cell hb2 l1 r1
      have s2 := kept_cell hb2 l1 r2
      have t0 := kept_free hb2 l1 f0
      have t1 := kept_free hb2 l1 f1
      have t2 := kept_free hb2 l1 f2
      have B2 := hid (hB1.out.trans (hb2.mono (by omega)))
      have HO2 := hid (HO.out.below hb2 (Nat.le_refl _))
      clear hb2 r0 r1 r2 f0 f1 f2
      go_wp2
      refine bodyPost_ret (v := .agg #[.int .i64 0, .bool b, .slice a1 ls.length c1]) (by simp [results, Try.results22, go_sem, s0, s1, s2]) rfl ?_
      rw [hR.out]
      exact qpost_ok HX.out hls.out hb.out rfl (os_mono (os_set (os_set (os_set HO2.out (by omega)) (by omega)) (by omega)) (by omega)) (setB (setB (setB B2.out (Nat.le_refl _) _) (Nat.le_refl _) _) (Nat.le_refl _) _)
    · have q2 : ¬ (n : Int) < (d.length : Int) := by omega
      have HBF : Hid (false = brokenC d) := hid (by rw [← hb.out, HBC.out, hasB_nil (by rw [List.length_drop]; omega)])
      have B2 := hid B1
      clear B1
      go_wp2
      refine bodyPost_ret (v := .agg #[.int .i64 0, .bool false, .slice a1 ls.length c1]) (by simp [results, Try.results22, go_sem, r0, r1, r2]) rfl ?_
      rw [hR.out]
      exact qpost_ok HX.out hls.out HBF.out rfl (os_mono (os_set (os_set (os_set HO.out (by omega)) (by omega)) (by omega)) (by omega)) (setB (setB (setB B2.out (Nat.le_refl _) _) (Nat.le_refl _) _) (Nat.le_refl _) _)
end Jn
end Go.Proofs.Ytiliahibnhfhoaa
