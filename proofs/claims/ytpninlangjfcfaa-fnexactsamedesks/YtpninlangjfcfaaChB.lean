/- Whether two of these are the same, as the specification and as the program tell it. -/
import Derived.Test.YtpninlangjfcfaaChA
import Derived.BigQuiet
namespace Go.Proofs.Ytpninlangjfcfaa
open Go.RowKit Go.Deep
set_option linter.unusedVariables false
namespace Ch
theorem eq_step {l m : List Int} {k : Nat} (h1 : k < l.length) (h2 : k < m.length) : (l.drop k == m.drop k) = (l[k] == m[k] && (l.drop (k + 1) == m.drop (k + 1))) := by
  rw [List.drop_eq_getElem_cons h1, List.drop_eq_getElem_cons h2]; rfl
theorem eq_end {l m : List Int} {k : Nat} (h1 : l.length ≤ k) (h2 : m.length ≤ k) : (l.drop k == m.drop k) = true := by
  rw [List.drop_eq_nil_of_le h1, List.drop_eq_nil_of_le h2]; rfl
theorem eq_len {l m : List Int} (h : l.length ≠ m.length) : (l == m) = false := by
  rw [beq_eq_false_iff_ne]; intro e; exact h (by rw [e])
set_option maxRecDepth 100000 in
set_option maxHeartbeats 2000000 in
theorem specL (B1 B2 : Nat) (l m : List Int) (v1 v2 : Value) (w : World) (hl : (l.length : Int) ≤ 1048576) (hm : (m.length : Int) ≤ 1048576) (h1 : Nu.At w B1 v1 l) (h2 : Nu.At w B2 v2 m) :
    Calls Try.prog 34 #[v1, v2] w fun e w' => e = .returned (.bool (l == m)) ∧ Below w.heap.size w w' := by
  obtain ⟨a1, c1, rfl⟩ := h1.slice
  obtain ⟨a2, c2, rfl⟩ := h2.slice
  have H1 := hid h1
  have H2 := hid h2
  clear h1 h2
  by_cases he : l.length = m.length
  · have hb : ((l.length : Int) != (m.length : Int)) = false := by simp [he]
    have HE := hid he
    clear he
    generalize hz : (l == m) = z at *
    have HZ := hid hz
    clear hz
    go_enter Try.func34, Try.ntmps34
    go_wp2
    go_loopw [5] (fun i wr => ∃ k : Nat, i = .int .i64 k ∧ k ≤ l.length ∧ Hid (z = (l.drop k == m.drop k)) ∧ Below w.heap.size w wr) (fun i _ => l.length - (intOf i).toNat)
    case atStart => exact ⟨0, rfl, Nat.zero_le _, hid (by rw [← HZ.out]; rfl), Below.refl _ _⟩
    case round =>
      obtain ⟨k, rfl, hk, HS, hbel⟩ := hrel
      by_cases hlt : k < l.length
      · have hlt2 : k < m.length := by rw [← HE.out]; exact hlt
        obtain ⟨g1, o1, rfl, hg1, p0⟩ := (H1.out.below hbel).at hlt
        obtain ⟨g2, o2, rfl, hg2, q0⟩ := (H2.out.below hbel).at hlt2
        have r1 : (k : Int) < (l.length : Int) := by omega
        have r2 : (k : Int) < (m.length : Int) := by omega
        have HST := hid (eq_step hlt hlt2)
        generalize l[k] = x at *
        generalize m[k] = y at *
        cases hE : (x == y)
        · have HF : Hid (z = false) := hid (by rw [HS.out, HST.out, hE, Bool.false_and])
          have hE2 : (x != y) = true := by rw [bne, hE]; rfl
          go_wp2
          go_region
          all_goals go_wp2
          all_goals go_ret
          all_goals exact ⟨by rw [HF.out]; rfl, hbel.drew⟩
        · have HF : Hid (z = (l.drop (k + 1) == m.drop (k + 1))) := hid (by rw [HS.out, HST.out, hE, Bool.true_and])
          have hE2 : (x != y) = false := by rw [bne, hE]; rfl
          go_wp2
          go_region
          all_goals go_wp2
          all_goals exact ⟨⟨k + 1, by simp, by omega, HF, hbel.drew⟩, by simp [intOf]; omega⟩
      · have HT : Hid (z = true) := hid (by rw [HS.out]; exact eq_end (by omega) (by have := HE.out; omega))
        go_wp2
        go_ret
        exact ⟨by rw [HT.out]; rfl, hbel⟩
  · have hb : ((l.length : Int) != (m.length : Int)) = true := bne_iff_ne.2 (fun e => he (by omega))
    have HE := hid (eq_len he)
    clear he
    generalize (l == m) = z at *
    go_enter Try.func34, Try.ntmps34
    go_wp2
    go_ret
    exact ⟨by rw [HE.out]; rfl, Below.refl _ _⟩
set_option maxRecDepth 100000 in
set_option maxHeartbeats 2000000 in
theorem implL (B1 B2 : Nat) (l m : List Int) (v1 v2 : Value) (w : World) (hl : (l.length : Int) ≤ 1048576) (hm : (m.length : Int) ≤ 1048576) (h1 : Nu.At w B1 v1 l) (h2 : Nu.At w B2 v2 m) :
    Calls Try.prog 47 #[v1, v2] w fun e w' => e = .returned (.bool (l == m)) ∧ Below w.heap.size w w' := by
  obtain ⟨a1, c1, rfl⟩ := h1.slice
  obtain ⟨a2, c2, rfl⟩ := h2.slice
  have H1 := hid h1
  have H2 := hid h2
  clear h1 h2
  by_cases he : l.length = m.length
  · have hb : ((l.length : Int) != (m.length : Int)) = false := by simp [he]
    have HE := hid he
    clear he
    generalize hz : (l == m) = z at *
    have HZ := hid hz
    clear hz
    go_enter Try.func47, Try.ntmps47
    go_wp2
    go_loopw [5, 13] (fun _ i wr => ∃ k : Nat, i = .int .i64 k ∧ k ≤ l.length ∧ Hid (z = (l.drop k == m.drop k)) ∧ Below w.heap.size w wr) (fun _ i _ => l.length - (intOf i).toNat)
    case atStart => exact ⟨0, rfl, Nat.zero_le _, hid (by rw [← HZ.out]; rfl), Below.refl _ _⟩
    case round =>
      obtain ⟨k, rfl, hk, HS, hbel⟩ := hrel
      by_cases hlt : k < l.length
      · have hlt2 : k < m.length := by rw [← HE.out]; exact hlt
        obtain ⟨g1, o1, rfl, hg1, p0⟩ := (H1.out.below hbel).at hlt
        obtain ⟨g2, o2, rfl, hg2, q0⟩ := (H2.out.below hbel).at hlt2
        have r1 : (k : Int) < (l.length : Int) := by omega
        have r2 : (k : Int) < (m.length : Int) := by omega
        have HST := hid (eq_step hlt hlt2)
        generalize l[k] = x at *
        generalize m[k] = y at *
        cases hE : (x == y)
        · have HF : Hid (z = false) := hid (by rw [HS.out, HST.out, hE, Bool.false_and])
          have hE2 : (x != y) = true := by rw [bne, hE]; rfl
          go_wp2
          go_region
          all_goals go_wp2
          all_goals go_ret
          all_goals exact ⟨by rw [HF.out]; rfl, hbel.drew⟩
        · have HF : Hid (z = (l.drop (k + 1) == m.drop (k + 1))) := hid (by rw [HS.out, HST.out, hE, Bool.true_and])
          have hE2 : (x != y) = false := by rw [bne, hE]; rfl
          go_wp2
          go_region
          all_goals go_wp2
          all_goals exact ⟨⟨k + 1, by simp, by omega, HF, hbel.drew⟩, by simp [intOf]; omega⟩
      · have HT : Hid (z = true) := hid (by rw [HS.out]; exact eq_end (by omega) (by have := HE.out; omega))
        go_wp2
        go_ret
        exact ⟨by rw [HT.out]; rfl, hbel⟩
  · have hb : ((l.length : Int) != (m.length : Int)) = true := bne_iff_ne.2 (fun e => he (by omega))
    have HE := hid (eq_len he)
    clear he
    generalize (l == m) = z at *
    go_enter Try.func47, Try.ntmps47
    go_wp2
    go_ret
    exact ⟨by rw [HE.out]; rfl, Below.refl _ _⟩
def same (r s : RunD) : Bool := (r.status == s.status) && (r.now == s.now) && (r.vars == s.vars) && (r.marks == s.marks) && (r.dues == s.dues)
set_option maxRecDepth 100000 in
set_option maxHeartbeats 4000000 in
theorem specSame (B1 B2 : Nat) (r s : RunD) (v1 v2 v3 u1 u2 u3 : Value) (w : World) (hr : Small 1048576 r) (hs : Small 1048576 s) (h1 : At w B1 v1 v2 v3 r) (h2 : At w B2 u1 u2 u3 s) :
    Calls Try.prog 21 #[.agg #[.int .i64 r.status, .int .i64 r.now, v1, v2, v3], .agg #[.int .i64 s.status, .int .i64 s.now, u1, u2, u3]] w fun e w' => e = .returned (.bool (same r s)) ∧ Below w.heap.size w w' := by
  obtain ⟨a1, k1, rfl⟩ := h1.vars.slice
  obtain ⟨a2, k2, rfl⟩ := h1.marks.slice
  obtain ⟨a3, k3, rfl⟩ := h1.dues.slice
  obtain ⟨b1, m1, rfl⟩ := h2.vars.slice
  obtain ⟨b2, m2, rfl⟩ := h2.marks.slice
  obtain ⟨b3, m3, rfl⟩ := h2.dues.slice
  have KB : Hid (Below w.heap.size w ((w.alloc (.cells #[.int .i64 r.status, .int .i64 r.now, .slice a1 r.vars.length k1, .slice a2 r.marks.length k2, .slice a3 r.dues.length k3] 56)).alloc (.cells #[.int .i64 s.status, .int .i64 s.now, .slice b1 s.vars.length m1, .slice b2 s.marks.length m2, .slice b3 s.dues.length m3] 56))) := hid (((Below.refl _ w).alloc (Nat.le_refl _) _).alloc (by simp) _)
  have c3 : Hid (((w.alloc (.cells #[.int .i64 r.status, .int .i64 r.now, .slice a1 r.vars.length k1, .slice a2 r.marks.length k2, .slice a3 r.dues.length k3] 56)).alloc (.cells #[.int .i64 s.status, .int .i64 s.now, .slice b1 s.vars.length m1, .slice b2 s.marks.length m2, .slice b3 s.dues.length m3] 56)).cell? ⟨w.heap.size, 3, none⟩ = some (.slice a2 r.marks.length k2)) := hid (by go_simp)
  have c4 : Hid (((w.alloc (.cells #[.int .i64 r.status, .int .i64 r.now, .slice a1 r.vars.length k1, .slice a2 r.marks.length k2, .slice a3 r.dues.length k3] 56)).alloc (.cells #[.int .i64 s.status, .int .i64 s.now, .slice b1 s.vars.length m1, .slice b2 s.marks.length m2, .slice b3 s.dues.length m3] 56)).cell? ⟨w.heap.size, 4, none⟩ = some (.slice a3 r.dues.length k3)) := hid (by go_simp)
  have d3 : Hid (((w.alloc (.cells #[.int .i64 r.status, .int .i64 r.now, .slice a1 r.vars.length k1, .slice a2 r.marks.length k2, .slice a3 r.dues.length k3] 56)).alloc (.cells #[.int .i64 s.status, .int .i64 s.now, .slice b1 s.vars.length m1, .slice b2 s.marks.length m2, .slice b3 s.dues.length m3] 56)).cell? ⟨w.heap.size + 1, 3, none⟩ = some (.slice b2 s.marks.length m2)) := hid (by go_simp)
  have d4 : Hid (((w.alloc (.cells #[.int .i64 r.status, .int .i64 r.now, .slice a1 r.vars.length k1, .slice a2 r.marks.length k2, .slice a3 r.dues.length k3] 56)).alloc (.cells #[.int .i64 s.status, .int .i64 s.now, .slice b1 s.vars.length m1, .slice b2 s.marks.length m2, .slice b3 s.dues.length m3] 56)).cell? ⟨w.heap.size + 1, 4, none⟩ = some (.slice b3 s.dues.length m3)) := hid (by go_simp)
  have zz : w.heap.size + 1 < ((w.alloc (.cells #[.int .i64 r.status, .int .i64 r.now, .slice a1 r.vars.length k1, .slice a2 r.marks.length k2, .slice a3 r.dues.length k3] 56)).alloc (.cells #[.int .i64 s.status, .int .i64 s.now, .slice b1 s.vars.length m1, .slice b2 s.marks.length m2, .slice b3 s.dues.length m3] 56)).heap.size := by simp
  have H1 := hid (h1.below KB.out)
  have H2 := hid (h2.below KB.out)
  have HR := hid hr
  have HS := hid hs
  clear h1 h2 hr hs
  cases h1 : (r.status == s.status)
  · have HV : Hid (same r s = false) := hid (by simp [same, h1])
    generalize same r s = zz at *
    go_enter Try.func21, Try.ntmps21
    go_wp2
    go_ret
    exact ⟨by rw [HV.out]; rfl, KB.out⟩
  cases h2 : (r.now == s.now)
  · have HV : Hid (same r s = false) := hid (by simp [same, h2])
    generalize same r s = zz at *
    go_enter Try.func21, Try.ntmps21
    go_wp2
    go_ret
    exact ⟨by rw [HV.out]; rfl, KB.out⟩
  have HV : Hid (same r s = ((r.vars == s.vars) && (r.marks == s.marks) && (r.dues == s.dues))) := hid (by simp only [same, h1, h2, Bool.true_and])
  have HC := hid (specL B1 B2 r.vars s.vars _ _ _ HR.out.vars HS.out.vars H1.out.vars H2.out.vars)
  generalize same r s = zr at *
  generalize (r.vars == s.vars) = e1 at *
  go_enter Try.func21, Try.ntmps21
  go_wp2_with fail
  generalize (w.alloc (.cells #[.int .i64 r.status, .int .i64 r.now, .slice a1 r.vars.length k1, .slice a2 r.marks.length k2, .slice a3 r.dues.length k3] 56)).alloc (.cells #[.int .i64 s.status, .int .i64 s.now, .slice b1 s.vars.length m1, .slice b2 s.marks.length m2, .slice b3 s.dues.length m3] 56) = w0 at *
  refine HC.out.mono ?_
  rintro e w1 ⟨rfl, hb1⟩
  have zz1 := Nat.lt_of_lt_of_le zz hb1.size
  have KB1 := hid (KB.out.trans (hb1.mono KB.out.size))
  have c3p := hid (old_cell hb1 (by omega) c3.out)
  have d3p := hid (old_cell hb1 (by omega) d3.out)
  have c4p := hid (old_cell hb1 (by omega) c4.out)
  have d4p := hid (old_cell hb1 (by omega) d4.out)
  have x1 := c3p.out
  have x2 := d3p.out
  have x3 : w.heap.size < w1.heap.size := by omega
  have H11 := hid (H1.out.below hb1)
  have H21 := hid (H2.out.below hb1)
  clear hb1
  clear HC
  cases e1
  · clear x1 x2 x3
    go_wp2
    go_ret
    exact ⟨by rw [HV.out]; rfl, KB1.out⟩
  have HC := hid (specL B1 B2 r.marks s.marks _ _ w1 HR.out.marks HS.out.marks H11.out.marks H21.out.marks)
  generalize (r.marks == s.marks) = e2 at *
  go_wp2_with fail
  refine HC.out.mono ?_
  rintro e w2 ⟨rfl, hb2⟩
  clear x1 x2 x3
  have zz2 := Nat.lt_of_lt_of_le zz1 hb2.size
  have KB2 := hid (KB1.out.trans (hb2.mono KB1.out.size))
  have c4pp := hid (old_cell hb2 (by omega) c4p.out)
  have d4pp := hid (old_cell hb2 (by omega) d4p.out)
  have x1 := c4pp.out
  have x2 := d4pp.out
  have x3 : w.heap.size < w2.heap.size := by omega
  have H12 := hid (H11.out.below hb2)
  have H22 := hid (H21.out.below hb2)
  clear hb2
  clear HC
  cases e2
  · clear x1 x2 x3
    go_wp2
    go_ret
    exact ⟨by rw [HV.out]; rfl, KB2.out⟩
  have HC := hid (specL B1 B2 r.dues s.dues _ _ w2 HR.out.dues HS.out.dues H12.out.dues H22.out.dues)
  generalize (r.dues == s.dues) = e3 at *
  go_wp2_with fail
  refine HC.out.mono ?_
  rintro e w3 ⟨rfl, hb3⟩
  have KB3 := hid (KB2.out.trans (hb3.mono KB2.out.size))
  clear hb3 HC
  go_wp2
  go_ret
  exact ⟨by rw [HV.out]; rfl, KB3.out⟩
set_option maxRecDepth 100000 in
set_option maxHeartbeats 4000000 in
theorem implSame (B1 B2 : Nat) (r s : RunD) (v1 v2 v3 u1 u2 u3 : Value) (w : World) (hr : Small 1048576 r) (hs : Small 1048576 s) (h1 : At w B1 v1 v2 v3 r) (h2 : At w B2 u1 u2 u3 s) :
    Calls Try.prog 38 #[.agg #[.int .i64 r.status, .int .i64 r.now, v1, v2, v3], .agg #[.int .i64 s.status, .int .i64 s.now, u1, u2, u3]] w fun e w' => e = .returned (.bool (same r s)) ∧ Below w.heap.size w w' := by
  obtain ⟨a1, k1, rfl⟩ := h1.vars.slice
  obtain ⟨a2, k2, rfl⟩ := h1.marks.slice
  obtain ⟨a3, k3, rfl⟩ := h1.dues.slice
  obtain ⟨b1, m1, rfl⟩ := h2.vars.slice
  obtain ⟨b2, m2, rfl⟩ := h2.marks.slice
  obtain ⟨b3, m3, rfl⟩ := h2.dues.slice
  have KB : Hid (Below w.heap.size w ((w.alloc (.cells #[.int .i64 r.status, .int .i64 r.now, .slice a1 r.vars.length k1, .slice a2 r.marks.length k2, .slice a3 r.dues.length k3] 56)).alloc (.cells #[.int .i64 s.status, .int .i64 s.now, .slice b1 s.vars.length m1, .slice b2 s.marks.length m2, .slice b3 s.dues.length m3] 56))) := hid (((Below.refl _ w).alloc (Nat.le_refl _) _).alloc (by simp) _)
  have c3 : Hid (((w.alloc (.cells #[.int .i64 r.status, .int .i64 r.now, .slice a1 r.vars.length k1, .slice a2 r.marks.length k2, .slice a3 r.dues.length k3] 56)).alloc (.cells #[.int .i64 s.status, .int .i64 s.now, .slice b1 s.vars.length m1, .slice b2 s.marks.length m2, .slice b3 s.dues.length m3] 56)).cell? ⟨w.heap.size, 3, none⟩ = some (.slice a2 r.marks.length k2)) := hid (by go_simp)
  have c4 : Hid (((w.alloc (.cells #[.int .i64 r.status, .int .i64 r.now, .slice a1 r.vars.length k1, .slice a2 r.marks.length k2, .slice a3 r.dues.length k3] 56)).alloc (.cells #[.int .i64 s.status, .int .i64 s.now, .slice b1 s.vars.length m1, .slice b2 s.marks.length m2, .slice b3 s.dues.length m3] 56)).cell? ⟨w.heap.size, 4, none⟩ = some (.slice a3 r.dues.length k3)) := hid (by go_simp)
  have d3 : Hid (((w.alloc (.cells #[.int .i64 r.status, .int .i64 r.now, .slice a1 r.vars.length k1, .slice a2 r.marks.length k2, .slice a3 r.dues.length k3] 56)).alloc (.cells #[.int .i64 s.status, .int .i64 s.now, .slice b1 s.vars.length m1, .slice b2 s.marks.length m2, .slice b3 s.dues.length m3] 56)).cell? ⟨w.heap.size + 1, 3, none⟩ = some (.slice b2 s.marks.length m2)) := hid (by go_simp)
  have d4 : Hid (((w.alloc (.cells #[.int .i64 r.status, .int .i64 r.now, .slice a1 r.vars.length k1, .slice a2 r.marks.length k2, .slice a3 r.dues.length k3] 56)).alloc (.cells #[.int .i64 s.status, .int .i64 s.now, .slice b1 s.vars.length m1, .slice b2 s.marks.length m2, .slice b3 s.dues.length m3] 56)).cell? ⟨w.heap.size + 1, 4, none⟩ = some (.slice b3 s.dues.length m3)) := hid (by go_simp)
  have zz : w.heap.size + 1 < ((w.alloc (.cells #[.int .i64 r.status, .int .i64 r.now, .slice a1 r.vars.length k1, .slice a2 r.marks.length k2, .slice a3 r.dues.length k3] 56)).alloc (.cells #[.int .i64 s.status, .int .i64 s.now, .slice b1 s.vars.length m1, .slice b2 s.marks.length m2, .slice b3 s.dues.length m3] 56)).heap.size := by simp
  have H1 := hid (h1.below KB.out)
  have H2 := hid (h2.below KB.out)
  have HR := hid hr
  have HS := hid hs
  clear h1 h2 hr hs
  cases h1 : (r.status == s.status)
  · have HV : Hid (same r s = false) := hid (by simp [same, h1])
    generalize same r s = zz at *
    go_enter Try.func38, Try.ntmps38
    go_wp2
    go_ret
    exact ⟨by rw [HV.out]; rfl, KB.out⟩
  cases h2 : (r.now == s.now)
  · have HV : Hid (same r s = false) := hid (by simp [same, h2])
    generalize same r s = zz at *
    go_enter Try.func38, Try.ntmps38
    go_wp2
    go_ret
    exact ⟨by rw [HV.out]; rfl, KB.out⟩
  have HV : Hid (same r s = ((r.vars == s.vars) && (r.marks == s.marks) && (r.dues == s.dues))) := hid (by simp only [same, h1, h2, Bool.true_and])
  have HC := hid (implL B1 B2 r.vars s.vars _ _ _ HR.out.vars HS.out.vars H1.out.vars H2.out.vars)
  generalize same r s = zr at *
  generalize (r.vars == s.vars) = e1 at *
  go_enter Try.func38, Try.ntmps38
  go_wp2_with fail
  generalize (w.alloc (.cells #[.int .i64 r.status, .int .i64 r.now, .slice a1 r.vars.length k1, .slice a2 r.marks.length k2, .slice a3 r.dues.length k3] 56)).alloc (.cells #[.int .i64 s.status, .int .i64 s.now, .slice b1 s.vars.length m1, .slice b2 s.marks.length m2, .slice b3 s.dues.length m3] 56) = w0 at *
  refine HC.out.mono ?_
  rintro e w1 ⟨rfl, hb1⟩
  have zz1 := Nat.lt_of_lt_of_le zz hb1.size
  have KB1 := hid (KB.out.trans (hb1.mono KB.out.size))
  have c3p := hid (old_cell hb1 (by omega) c3.out)
  have d3p := hid (old_cell hb1 (by omega) d3.out)
  have c4p := hid (old_cell hb1 (by omega) c4.out)
  have d4p := hid (old_cell hb1 (by omega) d4.out)
  have x1 := c3p.out
  have x2 := d3p.out
  have x3 : w.heap.size < w1.heap.size := by omega
  have H11 := hid (H1.out.below hb1)
  have H21 := hid (H2.out.below hb1)
  clear hb1
  clear HC
  cases e1
  · clear x1 x2 x3
    go_wp2
    go_ret
    exact ⟨by rw [HV.out]; rfl, KB1.out⟩
  have HC := hid (implL B1 B2 r.marks s.marks _ _ w1 HR.out.marks HS.out.marks H11.out.marks H21.out.marks)
  generalize (r.marks == s.marks) = e2 at *
  go_wp2_with fail
  refine HC.out.mono ?_
  rintro e w2 ⟨rfl, hb2⟩
  clear x1 x2 x3
  have zz2 := Nat.lt_of_lt_of_le zz1 hb2.size
  have KB2 := hid (KB1.out.trans (hb2.mono KB1.out.size))
  have c4pp := hid (old_cell hb2 (by omega) c4p.out)
  have d4pp := hid (old_cell hb2 (by omega) d4p.out)
  have x1 := c4pp.out
  have x2 := d4pp.out
  have x3 : w.heap.size < w2.heap.size := by omega
  have H12 := hid (H11.out.below hb2)
  have H22 := hid (H21.out.below hb2)
  clear hb2
  clear HC
  cases e2
  · clear x1 x2 x3
    go_wp2
    go_ret
    exact ⟨by rw [HV.out]; rfl, KB2.out⟩
  have HC := hid (implL B1 B2 r.dues s.dues _ _ w2 HR.out.dues HS.out.dues H12.out.dues H22.out.dues)
  generalize (r.dues == s.dues) = e3 at *
  go_wp2_with fail
  refine HC.out.mono ?_
  rintro e w3 ⟨rfl, hb3⟩
  have KB3 := hid (KB2.out.trans (hb3.mono KB2.out.size))
  clear hb3 HC
  go_wp2
  go_ret
  exact ⟨by rw [HV.out]; rfl, KB3.out⟩
end Ch
end Go.Proofs.Ytpninlangjfcfaa
