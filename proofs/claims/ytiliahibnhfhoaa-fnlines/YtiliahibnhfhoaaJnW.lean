/- Bytes cloned, joined, cut, as the program does it. No condition. -/
import Derived.Test.YtiliahibnhfhoaaJnU
import Derived.Test.YtiliahibnhfhoaaJnT
import Derived.Lib.AppendZerosOnto
import Derived.Lib.SliceRun
namespace Go.Proofs.Ytiliahibnhfhoaa
open Go.RowKit
set_option linter.unusedVariables false
namespace Jn
theorem ob_made (w : World) : Ob (w.alloc (.cells #[] 5)) w.heap.size (.slice (some ⟨w.heap.size, 0, none⟩) 0 0) [] := ⟨rfl, .inr ⟨w.heap.size, 0, #[], rfl, Nat.le_refl _, heap_alloc_new w _, Nat.le_refl _, by unfold maxLen; omega, rfl, rfl⟩⟩
theorem at_none {w : World} {B n c : Nat} {l : List UInt8} (h : At w B (.slice none n c) l) : l = [] := by
  obtain ⟨a', cap', e, _, hc⟩ := h
  cases e
  cases l with
  | nil => rfl
  | cons x xs => obtain ⟨g, o, hg, _⟩ := hc 0 (by simp); cases hg
theorem eql_nil (a : Option Addr) (n c : Nat) (w : World) : Sem.run Try.prog (binOp .eql 24 (.slice a n c) (.slice none 0 0)) w = .ok (.bool a.isNone) w := by
  have h := run_equal_slice_nil (P := Try.prog) w 24 5 a n c Try.underlying24
  simp [binOp, h]
set_option maxRecDepth 100000 in
set_option maxHeartbeats 2000000 in
theorem implClone (B : Nat) (l : List UInt8) (v : Value) (w : World) (hl : l.length ≤ 1048576) (hB : B ≤ w.heap.size) (ha : At w B v l) : Calls Try.prog 67 #[v] w (BPost l w) := by
  obtain ⟨a, c, rfl, hc⟩ := ha.slice
  have hAt := ha
  unfold BPost
  cases a with
  | none =>
    have hn := at_none hAt
    subst hn
    have hq := eql_nil none 0 c w
    clear hAt ha
    go_enter Try.func67, Try.ntmps67
    go_wp2
    go_ret
    exact ⟨none, 0, rfl, ob_nil _ _, Below.refl _ _⟩
  | some ad =>
    have HB : Hid (Below w.heap.size w (w.alloc (.cells #[] 5))) := hid ((Below.refl _ w).alloc (Nat.le_refl _) _)
    have HA := hid (hAt.below HB.out hB)
    have HM := hid (ob_made w)
    have hq := eql_nil (some ad) l.length c w
    clear hAt ha
    go_enter Try.func67, Try.ntmps67
    go_wp2_with (at_builtin; refine wpL _ rfl _ _ rfl w.heap.size _ [] rfl HM.out _ l _ rfl HA.out (by simp; omega) (by simp) ?_; intro p a3 c3 w3 hG; have HG := hid hG; clear hG)
    go_ret
    obtain rfl : p = l := HG.out.eq
    exact ⟨a3, c3, rfl, HG.out.own, HB.out.trans (HG.out.low HM.out (by simp))⟩
theorem grow_run (n : Nat) (h0 : 0 < n) (hn : n ≤ 4194304) (w : World) : ∃ C w', (∀ ty, Sem.run Try.prog (Builtin.append_ #[24, 3] ty #[.slice none 0 0, .int .i64 (n : Int)]) w = .ok (.slice (some ⟨w.heap.size, 0, none⟩) n C) w') ∧ Ob w' w.heap.size (.slice (some ⟨w.heap.size, 0, none⟩) 0 C) [] ∧ Below w.heap.size w w' ∧ n ≤ C := by
  obtain ⟨i, hi, hi1, hi2, hi3⟩ := info_eq info8
  have hge := grownCap_ge w n 0 5
  have hle := grownCap_le_maxLen w n 0 5 (by unfold maxLen; omega)
  have h := fun ty => Lib.run_append_grow_zeros w 24 3 ty 5 i (.int .u8 0) .i64 .i64 Try.underlying24 Try.underlying3 hi hi1 none 0 0 [] (run_firstCells_none w.drew i.size 0 0 0) n h0 (by omega) (by omega) (by omega) (by rw [hi3]; omega) (by rw [hi3]; unfold Builtin.nextslicecap; rw [if_pos (by omega)]; omega)
  simp only [Nat.zero_add] at h
  refine ⟨_, _, h, ?_, ?_, hge⟩
  · refine ⟨rfl, .inr ⟨w.heap.size, grownCap w n 0 5, _, rfl, Nat.le_refl _, heap_alloc_new w.drew _, Nat.zero_le _, hle, ?_, ?_⟩⟩
    · have hz1 : (Value.int IntKind.u8 0).cells.size = 1 := rfl
      simp only [Array.size_append, List.size_toArray, size_zeroCells, hz1]
      simp
      omega
    · rfl
  · exact ((Below.refl w.heap.size w).drew).alloc (Nat.le_refl _) _
set_option maxRecDepth 100000 in
set_option maxHeartbeats 2000000 in
theorem implGrow (n : Nat) (w : World) (hn : n ≤ 4194304) : Calls Try.prog 83 #[.slice none 0 0, .int .i64 (n : Int)] w fun e w' => ∃ a c, e = .returned (.slice a 0 c) ∧ Ob w' w.heap.size (.slice a 0 c) [] ∧ Below w.heap.size w w' := by
  by_cases h0 : 0 < n
  · obtain ⟨C, w1, hr, ho, hb, hc⟩ := grow_run n h0 hn w
    have q1 : ¬ (n : Int) < 0 := by omega
    have q2 : (0 : Int) < (n : Int) := by omega
    have HO := hid ho
    have HB := hid hb
    clear ho hb
    go_enter Try.func83, Try.ntmps83
    go_wp2_with (at_builtin; refine Lib.wpList_append_run _ rfl _ _ _ _ rfl _ _ rfl rfl _ _ (hr _) ?_)
    all_goals (go_ret; exact ⟨_, _, rfl, HO.out, HB.out⟩)
  · obtain rfl : n = 0 := by omega
    go_enter Try.func83, Try.ntmps83
    go_wp2
    go_ret
    exact ⟨none, 0, rfl, ob_nil _ _, Below.refl _ _⟩
set_option maxRecDepth 100000 in
set_option maxHeartbeats 8000000 in
theorem implConcat (B g : Nat) (s l : List UInt8) (v1 v2 : Value) (T : TypeId) (w : World) (hz : s.length + l.length ≤ 1048576) (hB : B ≤ w.heap.size) (ha1 : At w B v1 s) (ha2 : At w B v2 l) (hg : w.heap[g]? = some (.cells #[v1, v2] T (0, 0))) :
    Calls Try.prog 68 #[.slice (some ⟨g, 0, none⟩) 2 2] w (BPost (s ++ l) w) := by
  obtain ⟨a1, c1, rfl, _⟩ := ha1.slice
  obtain ⟨a2, c2, rfl, _⟩ := ha2.slice
  have hgl := blk_lt hg
  have p0 := blk_cell hg (o := 0) (v := .slice a1 s.length c1) rfl
  have p1 := blk_cell hg (o := 1) (v := .slice a2 l.length c2) rfl
  have HA1 := hid ha1
  have HA2 := hid ha2
  have HG := hid (fun w' => implGrow (s.length + l.length) w' (by omega))
  rw [Int.natCast_add] at HG
  have HSL : Hid ((s ++ l).length = s.length + l.length) := hid List.length_append
  obtain ⟨t, ht⟩ : ∃ t, Hid (t = s ++ l) := ⟨_, hid rfl⟩
  rw [← ht.out]
  unfold BPost
  clear ha1 ha2 hg
  go_enter Try.func68, Try.ntmps68
  go_wp2
  go_loopw [3, 11] (fun q x wr => ∃ j m : Nat, x = .int .i64 (j : Int) ∧ q = .int .i64 (m : Int) ∧ j ≤ 2 ∧ Hid ((j = 0 ∧ m = 0) ∨ (j = 1 ∧ m = s.length) ∨ (j = 2 ∧ m = s.length + l.length)) ∧ Hid (wr = w)) (fun _ x _ => 2 - (intOf x).toNat)
  case atStart => exact ⟨0, 0, rfl, rfl, by omega, hid (.inl ⟨rfl, rfl⟩), hid rfl⟩
  case round =>
    obtain ⟨j, m, rfl, rfl, hj, HC, HW⟩ := hrel
    have hw := HW.out
    subst hw
    rcases HC.out with ⟨rfl, rfl⟩ | ⟨rfl, rfl⟩ | ⟨rfl, rfl⟩
    · clear HC
      go_wp2
      exact ⟨⟨1, s.length, rfl, by simp, by omega, hid (.inr (.inl ⟨rfl, rfl⟩)), hid trivial⟩, by simp [intOf]⟩
    · have q1 : ¬ (s.length : Int) + (l.length : Int) < 0 := by omega
      clear HC
      go_wp2
      exact ⟨⟨2, s.length + l.length, rfl, by simp, by omega, hid (.inr (.inr ⟨rfl, rfl⟩)), hid trivial⟩, by simp [intOf]⟩
    · clear HC
      obtain ⟨wo, hwo⟩ : ∃ wo, wo = wr := ⟨_, rfl⟩
      subst hwo
      rw [Int.natCast_add]
      go_wp2_with fail
      refine (HG.out _).mono ?_
      rintro e w1 ⟨a3, c3, rfl, ho, hb⟩
      have HO := hid ho
      have HB := hid hb
      clear ho hb
      go_wp2
      go_loopw [6, 27] (fun q x wx => ∃ (j : Nat) (p : List UInt8), x = .int .i64 (j : Int) ∧ (∃ a5 c5, q = .slice a5 p.length c5) ∧ j ≤ 2 ∧ Hid ((j = 0 ∧ p = []) ∨ (j = 1 ∧ p = s) ∨ (j = 2 ∧ p = s ++ l)) ∧ Hid (Ob wx wo.heap.size q p) ∧ Hid (Below wo.heap.size wo wx)) (fun _ x _ => 2 - (intOf x).toNat)
      case atStart => exact ⟨0, [], rfl, ⟨a3, c3, rfl⟩, by omega, hid (.inl ⟨rfl, rfl⟩), HO, HB⟩
      case round =>
        obtain ⟨j, p, rfl, ⟨a5, c5, rfl⟩, hj, HC, HOP, HBX⟩ := hrel
        have hs0 := HBX.out.size
        rcases HC.out with ⟨rfl, rfl⟩ | ⟨rfl, rfl⟩ | ⟨rfl, rfl⟩
        · clear HC
          have r0 := kept_cell HBX.out hgl p0
          have HAX := hid (HA1.out.below HBX.out hB)
          go_wp2_with (at_builtin; refine wpL _ rfl _ _ rfl wo.heap.size _ [] rfl HOP.out _ s _ rfl HAX.out (by simp; omega) hs0 ?_; intro p4 a4 c4 w4 hG; have HX := hid hG; clear hG)
          exact ⟨⟨1, p4, rfl, ⟨_, _, rfl⟩, by omega, hid (.inr (.inl ⟨rfl, HX.out.eq⟩)), hid HX.out.own, hid (HBX.out.trans (HX.out.low HOP.out hs0))⟩, by simp [intOf]⟩
        · clear HC
          have r1 := kept_cell HBX.out hgl p1
          have HAX := hid (HA2.out.below HBX.out hB)
          go_wp2_with (at_builtin; refine wpL _ rfl _ _ rfl wo.heap.size _ p rfl HOP.out _ l _ rfl HAX.out (by omega) hs0 ?_; intro p4 a4 c4 w4 hG; have HX := hid hG; clear hG)
          exact ⟨⟨2, p4, rfl, ⟨_, _, rfl⟩, by omega, hid (.inr (.inr ⟨rfl, HX.out.eq⟩)), hid HX.out.own, hid (HBX.out.trans (HX.out.low HOP.out hs0))⟩, by simp [intOf]⟩
        · obtain ⟨u, hu⟩ : ∃ u, Hid (u = s ++ l) := ⟨_, hid rfl⟩
          rw [← hu.out] at HOP ⊢
          rw [← hu.out] at ht
          have htu := ht.out
          subst htu
          clear HC hu ht HSL
          go_wp2
          go_ret
          exact ⟨a5, c5, rfl, HOP.out, HBX.out⟩
end Jn
end Go.Proofs.Ytiliahibnhfhoaa
