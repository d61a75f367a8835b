/- What is appended and what is synced: plain facts. No condition. -/
import Derived.Test.YtiliahibnhfhoaaJtA
namespace Go.Proofs.Ytiliahibnhfhoaa
open Go.RowKit
set_option linter.unusedVariables false
namespace Jn
theorem lenN_pack {x : List UInt8} (h : x.length ≤ 40) : lenN (packL x) = x.length := by
  show (UInt8.ofNat x.length).toNat = x.length
  rw [UInt8.toNat_ofNat']
  omega
theorem one_pack {x : List UInt8} (h : faultC x = 0) : oneB (packL x) = true ∧ oneL (packL x) = x := by
  have hl := fault_len h
  have h1 := lenN_pack hl.2
  have h2 : oneL (packL x) = x := by
    unfold oneL
    rw [h1]
    show ((x ++ [by8 (sumV (headL x) / 256), by8 (sumV (headL x) % 256)])).take x.length = x
    rw [List.take_append_of_le_length (Nat.le_refl _), List.take_length]
  refine ⟨?_, h2⟩
  unfold oneB
  rw [h2, h1, h, pack_len, List.take_of_length_le (by rw [pack_len]; exact Nat.le_refl _)]
  simp
theorem read_pack {x : List UInt8} (h : faultC x = 0) : readL (packL x) = ([x], (packL x).length) := by
  obtain ⟨h1, h2⟩ := one_pack h
  have hn := (oneN_pos h1).1
  have hs := (oneN_pos h1).2
  rw [lenN_pack (fault_len h).2] at hn
  rw [read_step (by omega), hs, h2, hn, List.drop_eq_nil_of_le (by rw [pack_len]; exact Nat.le_refl _), read_nil, pack_len]
  rfl
theorem of_aC {s l x : List UInt8} (h : aC s l x = 0) : jF s l = 0 ∧ faultC x = 0 ∧ s.length + (l.length + (x.length + 3)) ≤ 2400 := by
  unfold aC at h
  by_cases h1 : jF s l = 0
  · rw [if_pos h1] at h
    by_cases h2 : faultC x = 0
    · rw [if_pos h2] at h
      by_cases h3 : 2400 < s.length + (l.length + (x.length + 3))
      · rw [if_pos h3] at h; cases h
      · exact ⟨h1, h2, by omega⟩
    · rw [if_neg h2] at h; exact absurd h h2
  · rw [if_neg h1] at h; exact absurd h h1
/-- What an append leaves, and the sync behind it. -/
structure AppF (s l x sp lp : List UInt8) : Prop where
  len : sp.length + lp.length ≤ 2400
  jf : jF sp lp = 0
  jf0 : jF s l = 0
  cnt : countN sp lp = countN (s ++ l) [] + 1
  cnt2 : countN (sp ++ lp) [] = countN sp lp
  k0 : kC (sp ++ lp) [] 0 = 0
  cut : countN (cutL (sp ++ lp) [] 0) [] = countN (sp ++ lp) []
  last : ∃ m : Nat, (linesL (sp ++ lp)).length = m + 1 ∧ (linesL (sp ++ lp))[m]? = some x
  small : countN (s ++ l) [] ≤ 2400
theorem appended {s l x : List UInt8} (h : aC s l x = 0) : AppF s l x s (l ++ packL x) := by
  obtain ⟨hf, hx, hlen⟩ := of_aC h
  obtain ⟨_, hs, hl⟩ := of_jF hf
  have hp := read_pack hx
  have e1 : readL (l ++ packL x) = ((readL l).1 ++ [x], l.length + (packL x).length) := by rw [read_app hl, hp]
  have hl2 : (l ++ packL x).length = l.length + (x.length + 3) := by rw [List.length_append, pack_len]
  have e1l : (readL (l ++ packL x)).2 = (l ++ packL x).length := by rw [e1, List.length_append]
  have e2 : readL (s ++ (l ++ packL x)) = ((readL s).1 ++ ((readL l).1 ++ [x]), s.length + (l ++ packL x).length) := by rw [read_app hs, e1]; rw [List.length_append]
  have e2l : (readL (s ++ (l ++ packL x))).2 = (s ++ (l ++ packL x)).length := by rw [e2]; simp only [List.length_append]
  have e3 : readL (s ++ l) = ((readL s).1 ++ (readL l).1, s.length + l.length) := by rw [read_app hs, hl]
  have q2 : (s ++ (l ++ packL x)).length ≤ 2400 := by rw [List.length_append, hl2]; omega
  have ekc : jF (s ++ (l ++ packL x)) [] = 0 := jF_ok (by simp only [List.length_nil]; omega) e2l (by rw [read_nil]; rfl)
  have ecut : cutL (s ++ (l ++ packL x)) [] 0 = s ++ (l ++ packL x) := by
    unfold cutL
    rw [List.take_nil, List.append_nil, e2l, List.take_length]
  refine ⟨by rw [hl2]; omega, jF_ok (by rw [hl2]; omega) hs e1l, hf, ?_, ?_, ?_, by rw [ecut], ?_, ?_⟩
  · unfold countN
    rw [e1, e3, read_nil]
    simp only [List.length_append, List.length_cons, List.length_nil]
    omega
  · unfold countN
    rw [e1, e2, read_nil]
    simp only [List.length_append, List.length_cons, List.length_nil]
    omega
  · exact kC_3 ekc ⟨by omega, by simp⟩
  · rw [(lines_ok (by omega)).2.2, e2]
    refine ⟨(readL s).1.length + (readL l).1.length, by simp only [List.length_append, List.length_cons, List.length_nil]; omega, ?_⟩
    rw [← List.append_assoc, List.getElem?_append_right (by rw [List.length_append]; exact Nat.le_refl _), List.length_append, Nat.sub_self]
    rfl
  · have c := readL_count (s ++ l)
    unfold countN
    rw [read_nil]
    simp only [List.length_nil]
    rw [List.length_append] at c
    omega
theorem sync_so {s l : List UInt8} (h : jF s l = 0) : SYPost s l = JPost 0 (countN (s ++ l) []) (s ++ l) [] := by
  unfold SYPost
  rw [h, (ok_so rfl (countN (s ++ l) []) (s ++ l)).1, (ok_so rfl 0 (s ++ l)).2, (ok_so rfl 0 []).2]
theorem crash_so {s l : List UInt8} {k : Int} (h : kC s l k = 0) : CRPost s l k = JPost 0 (countN (cutL s l k) []) (cutL s l k) [] := by
  unfold CRPost
  rw [h, (ok_so rfl (countN (cutL s l k) []) (cutL s l k)).1, (ok_so rfl 0 (cutL s l k)).2, (ok_so rfl 0 []).2]
theorem fldJ1 (c n : Int) (u1 u2 : Value) (w : World) : Sem.run Try.prog (Instr.field 49 (.agg #[.int .i64 c, .int .i64 n, u1, u2]) 1) w = .ok (.int .i64 n) w := by kernel_rfl
end Jn
end Go.Proofs.Ytiliahibnhfhoaa
