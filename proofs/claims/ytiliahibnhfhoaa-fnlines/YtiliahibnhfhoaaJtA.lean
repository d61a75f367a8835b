/- Lines behind a crash; the laws' comparing of texts; a row of texts up to a place. No condition. -/
import Derived.Test.YtiliahibnhfhoaaJdP
import Derived.Test.YtiliahibnhfhoaaJaI
import Derived.Test.YtiliahibnhfhoaaJaS
import Derived.Test.YtiliahibnhfhoaaJnS
namespace Go.Proofs.Ytiliahibnhfhoaa
open Go.RowKit
set_option linter.unusedVariables false
namespace Jn
theorem of_kC {s l : List UInt8} {k : Int} (h : kC s l k = 0) : jF s l = 0 ∧ 0 ≤ k ∧ k ≤ (l.length : Int) := by
  unfold kC at h
  by_cases h1 : jF s l = 0
  · rw [if_pos h1] at h
    by_cases h2 : 0 ≤ k ∧ k ≤ (l.length : Int)
    · exact ⟨h1, h2⟩
    · rw [if_neg h2] at h; cases h
  · rw [if_neg h1] at h; exact absurd h h1
/-- What a crash leaves of the lines. -/
structure TornF (s l cut : List UInt8) (k : Int) : Prop where
  len : s.length + l.length ≤ 2400
  clen : cut.length ≤ 2400
  cnt : countN cut [] = (linesL cut).length
  sure : (linesL s).length ≤ (linesL cut).length
  all : linesL cut <+: linesL (s ++ l)
  fault : jF cut [] = 0
  last : k < (l.length : Int) ∨ (linesL cut).length = (linesL (s ++ l)).length
theorem torn {s l : List UInt8} {k : Int} (h : kC s l k = 0) : TornF s l (cutL s l k) k := by
  obtain ⟨hf, hk0, hk1⟩ := of_kC h
  obtain ⟨hlen, hs, hl⟩ := of_jF hf
  have hx : (s ++ l.take k.toNat).length ≤ 2400 := by rw [List.length_append, List.length_take]; omega
  have hle := readL_le (s ++ l.take k.toNat)
  have hcl : (cutL s l k).length = (readL (s ++ l.take k.toNat)).2 := by unfold cutL; rw [List.length_take]; omega
  have hrc : readL (cutL s l k) = readL (s ++ l.take k.toNat) := read_cut _
  have hc2 : (cutL s l k).length ≤ 2400 := by omega
  have e1 : linesL (cutL s l k) = (readL s).1 ++ (readL (l.take k.toNat)).1 := by rw [(lines_ok (by omega)).2.2, hrc, read_app hs]
  have e2 : linesL (s ++ l) = (readL s).1 ++ (readL l).1 := by rw [(lines_ok (by rw [List.length_append]; omega)).2.2, read_app hs]
  have e3 : linesL s = (readL s).1 := (lines_ok (by omega)).2.2
  refine ⟨hlen, hc2, ?_, ?_, ?_, ?_, ?_⟩
  · unfold countN
    rw [(lines_ok (by omega)).2.2, read_nil]
    simp
  · rw [e1, e3, List.length_append]; omega
  · rw [e1, e2]
    exact (List.prefix_append_right_inj _).2 (read_take l k.toNat)
  · refine jF_ok (by simp; omega) ?_ ?_
    · rw [hrc, hcl]
    · rw [read_nil]; rfl
  · by_cases hk : k < (l.length : Int)
    · exact .inl hk
    · refine .inr ?_
      have e4 : l.take k.toNat = l := List.take_of_length_le (by omega)
      rw [e1, e2, e4]
theorem sizedS (w : World) : Sem.run Try.prog (sizeOf (Try.prog.elem 30)) w = .ok 1 w := by kernel_rfl
theorem Os.to {w : World} {B : Nat} {a : Option Addr} {n c : Nat} {ls : List (List UInt8)} (h : Os w B (.slice a n c) ls) (i : Nat) (hi : i ≤ ls.length) :
    ∀ w' : World, Sem.run Try.prog (Instr.slice 30 (.slice a n c) none (some (.int .i64 (i : Int))) none) w' = .ok (.slice a i c) w' := by
  obtain ⟨h1, h2⟩ := h
  have hlen := strs_len ls
  have ha : (if c = 0 then a else a.map (·.add (0 * 1))) = a := by
    split
    · rfl
    · cases a with
      | none => rfl
      | some ad => obtain ⟨g, o, p⟩ := ad; unfold Addr.add; cases p <;> rfl
  have hc : i ≤ c := by
    rcases h2 with ⟨e, h0⟩ | ⟨g, cap, cur, e, hB, hg, hcc, _⟩
    · omega
    · cases e
      omega
  intro w'
  have hn : n = ls.length := by
    rcases h2 with ⟨e, h0⟩ | ⟨g, cap, cur, e, _⟩
    · cases e; omega
    · cases e; rfl
  rw [run_slice_h (P := Try.prog) w' 30 a n c (by kernel_rfl) .i64 (i : Int) (by omega) (by omega), sizedS]
  simp only [Result.andThen, sliced, Int.toNat_natCast, Nat.sub_zero]
  rw [ha]
set_option maxRecDepth 100000 in
set_option maxHeartbeats 1000000 in
theorem lwT (B1 B2 : Nat) (a1 a2 : Option Addr) (c1 c2 c3 m : Nat) (xs ys : List (List UInt8)) (w : World) (hn : xs.length ≤ 1048576) (hp : xs <+: ys) (h1 : Os w B1 (.slice a1 xs.length c1) xs) (h2 : Os w B2 (.slice a2 m c2) ys) :
    Calls Try.prog 46 #[.slice a1 xs.length c1, .slice a2 xs.length c3] w fun e w' => e = .returned (.bool true) ∧ Below w.heap.size w w' := by
  have H1 := hid h1
  have H2 := hid h2
  clear h1 h2
  have hpl := hp.length_le
  have hb : ((xs.length : Int) != (xs.length : Int)) = false := by simp
  go_enter Try.func46, Try.ntmps46
  go_wp2
  go_loopw [5] (fun i wr => ∃ k : Nat, i = .int .i64 k ∧ k ≤ xs.length ∧ Below w.heap.size w wr) (fun i _ => xs.length - (intOf i).toNat)
  case atStart => exact ⟨0, rfl, Nat.zero_le _, Below.refl _ _⟩
  case round =>
    obtain ⟨k, rfl, hk, hbel⟩ := hrel
    by_cases hlt : k < xs.length
    · obtain ⟨g1, rfl, hg1, hc1⟩ := (H1.out.below hbel (Nat.le_refl _)).cell hlt
      obtain ⟨g2, rfl, hg2, hc2⟩ := (H2.out.below hbel (Nat.le_refl _)).cell (Nat.lt_of_lt_of_le hlt hpl)
      rw [← hp.getElem hlt] at hc2
      generalize str xs[k] = x at *
      have hne : (x.toList == x.toList) = true := by simp
      have q1 : (k : Int) < (xs.length : Int) := by omega
      go_wp2
      go_quiet (fail)
      go_wp2
      exact ⟨⟨k + 1, by simp, by omega, below_drewN hbel nq⟩, by simp [intOf]; omega⟩
    · go_wp2
      go_ret
      exact ⟨rfl, hbel⟩
end Jn
end Go.Proofs.Ytiliahibnhfhoaa
