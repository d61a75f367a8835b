/- What the laws do with rows of bytes: copied, compared, marked, held. No condition. -/
import Derived.Test.YtiliahibnhfhoaaJnE
import Derived.Deep.QuietTactic
import Derived.BigQuiet
import Derived.Laws.MakeOwn
namespace Go.Proofs.Ytiliahibnhfhoaa
open Go.RowKit
set_option linter.unusedVariables false
namespace Jn
theorem owns_cell {w : World} {base g n cap i : Nat} {e : TypeId} {xs : List Value} (h : w.ownsRow base e 1 (.slice (some ⟨g, 0, none⟩) n cap) n xs) (hi : i < n) :
    (∃ u, w.cell? ⟨g, i, none⟩ = some u) ∧ w.frozen? ⟨g, i, none⟩ = false ∧ base ≤ g ∧ g < w.heap.size := by
  obtain ⟨hl, ⟨h0, _⟩ | ⟨g', cap', cur, hv, hbg, hg, hle, hm, hs, ht⟩⟩ := h
  · cases h0
  · cases hv
    have hlt : i < cur.size := by omega
    exact ⟨⟨cur[i], by simp [World.cell?, hg, hlt]⟩, by simp [World.frozen?, hg], hbg, (Array.getElem?_eq_some_iff.1 hg).1⟩
theorem owns_some {w : World} {base n : Nat} {e : TypeId} {v : Value} {xs : List Value} (h : w.ownsRow base e 1 v n xs) (hn : 0 < n) : ∃ g cap, v = .slice (some ⟨g, 0, none⟩) n cap := by
  obtain ⟨hl, ⟨_, h0⟩ | ⟨g', cap', cur, hv, _⟩⟩ := h
  · omega
  · exact ⟨_, _, hv⟩
theorem Ob.slice {w : World} {B : Nat} {v : Value} {l : List UInt8} (h : Ob w B v l) : ∃ a cap, v = .slice a l.length cap := by
  obtain ⟨hl, ⟨rfl, h0⟩ | ⟨g', cap', cur, hv, _⟩⟩ := h
  · exact ⟨none, 0, by rw [h0]⟩
  · exact ⟨_, _, hv⟩
theorem grown_refl (w : World) (row : Option Nat) : w.grownBy w row := ⟨rfl, rfl, rfl, Nat.le_refl _, fun _ _ _ => rfl⟩
theorem grown_after {w w1 w2 : World} {row : Option Nat} (h : w.grownBy w1 row) (h2 : w1.grownBy w2 row) : w.grownBy w2 row :=
  ⟨h2.os.trans h.os, h2.tape.trans h.tape, h2.output.trans h.output, Nat.le_trans h.size h2.size, fun k hk hr => (h2.block k (Nat.lt_of_lt_of_le hk h.size) hr).trans (h.block k hk hr)⟩
theorem grown_set {w w1 : World} {g : Nat} (h : w.grownBy w1 (some g)) (i : Nat) (u : Value) : w.grownBy (w1.setCell ⟨g, i, none⟩ u) (some g) :=
  grown_after h ⟨rfl, rfl, rfl, by simp [World.setCell], fun k hk hr => Below.heap_setCell _ _ _ _ (fun e => hr (by rw [e]))⟩
theorem below_drewN {B : Nat} {a w : World} (h : Below B a w) (n : Nat) : Below B a (w.drewN n) := ⟨h.os, h.tape, h.output, h.size, h.block⟩
def marksF (k : Nat) (n : Nat) : List UInt8 := (List.range n).map fun i => by8 (k + i)
theorem marksF_len (k n : Nat) : (marksF k n).length = n := by simp [marksF]
theorem marksF_succ (k n : Nat) : marksF k (n + 1) = marksF k n ++ [by8 (k + n)] := by simp [marksF, List.range_succ]
theorem marksF_get {k n i : Nat} (h : i < n) : (marksF k n)[i]'(by rw [marksF_len]; exact h) = by8 (k + i) := by simp [marksF]
def half (k : Nat) (xs : List UInt8) (i : Nat) : List UInt8 := marksF k i ++ xs.drop i
theorem half_set {k : Nat} {xs : List UInt8} {i : Nat} (h : i < xs.length) : (half k xs i).set i (by8 (k + i)) = half k xs (i + 1) := by
  unfold half
  rw [marksF_succ, List.drop_eq_getElem_cons h, List.set_append_right _ _ (Nat.le_of_eq (marksF_len k i)), marksF_len, Nat.sub_self, List.set_cons_zero, List.append_assoc]
  rfl
theorem half_len {k : Nat} {xs : List UInt8} {i : Nat} (h : i ≤ xs.length) : (half k xs i).length = xs.length := by
  unfold half
  rw [List.length_append, marksF_len, List.length_drop]
  omega
theorem wrap8 (n : Nat) : IntKind.u8.wrap (n : Int) = ((by8 n).toNat : Int) := by
  rw [IntKind.wrap_u8]
  unfold by8
  rw [UInt8.toNat_ofNat']
  omega
set_option maxRecDepth 100000 in
set_option maxHeartbeats 2000000 in
theorem eqS (B : Nat) (v1 v2 : Value) (xs : List UInt8) (w : World) (hn : xs.length ≤ 1048576) (h1 : At w B v1 xs) (h2 : At w B v2 xs) (hB : B ≤ w.heap.size) :
    Calls Try.prog 24 #[v1, v2] w fun e w' => e = .returned (.bool true) ∧ Below w.heap.size w w' := by
  obtain ⟨a1, c1, rfl, _⟩ := h1.slice
  obtain ⟨a2, c2, rfl, _⟩ := h2.slice
  have H1 := hid h1
  have H2 := hid h2
  clear h1 h2
  have hb : ((xs.length : Int) != (xs.length : Int)) = false := by simp
  go_enter Try.func24, Try.ntmps24
  go_wp2
  go_loopw [5] (fun i wr => ∃ k : Nat, i = .int .i64 k ∧ k ≤ xs.length ∧ Below w.heap.size w wr) (fun i _ => xs.length - (intOf i).toNat)
  case atStart => exact ⟨0, rfl, Nat.zero_le _, Below.refl _ _⟩
  case round =>
    obtain ⟨k, rfl, hk, hbel⟩ := hrel
    by_cases hlt : k < xs.length
    · obtain ⟨g1, o1, rfl, hg1, hc1⟩ := (H1.out.below hbel hB).at hlt
      obtain ⟨g2, o2, rfl, hg2, hc2⟩ := (H2.out.below hbel hB).at hlt
      simp only [vb] at hc1 hc2
      generalize (xs[k].toNat : Int) = x at *
      have hne : (x != x) = false := by simp
      have hne2 : (x == x) = true := by simp
      have q1 : (k : Int) < (xs.length : Int) := by omega
      go_wp2
      go_quiet (fail)
      go_wp2
      exact ⟨⟨k + 1, by simp, by omega, below_drewN hbel nq⟩, by simp [intOf]; omega⟩
    · go_wp2
      go_ret
      exact ⟨rfl, hbel⟩
set_option maxRecDepth 100000 in
set_option maxHeartbeats 2000000 in
theorem markS (B : Nat) (v : Value) (xs : List UInt8) (k0 : Nat) (w : World) (hn : xs.length ≤ 1048576) (hk0 : k0 ≤ 17592186044416) (h : Ob w B v xs) :
    Calls Try.prog 25 #[v, .int .i64 (k0 : Int)] w fun e w' => e = .returned (.int .i64 ((k0 : Int) + (xs.length : Int))) ∧ Ob w' B v (marksF k0 xs.length) ∧ w.grownBy w' v.ownBlock := by
  obtain ⟨a, cap, rfl⟩ := h.slice
  have HO := hid h
  clear h
  go_enter Try.func25, Try.ntmps25
  go_wp2
  go_loopw [1, 5] (fun q i wr => ∃ k : Nat, i = .int .i64 k ∧ q = .int .i64 ((k0 : Int) + (k : Int)) ∧ k ≤ xs.length ∧ Hid (wr.ownsRow B 5 1 (.slice a xs.length cap) xs.length (vbs (half k0 xs k))) ∧ w.grownBy wr (Value.slice a xs.length cap).ownBlock) (fun _ i _ => xs.length - (intOf i).toNat)
  case atStart => exact ⟨0, rfl, by simp, Nat.zero_le _, hid (by have := HO.out; unfold Ob at this; simpa [half, marksF] using this), grown_refl _ _⟩
  case round =>
    obtain ⟨k, rfl, rfl, hk, HR, hbel⟩ := hrel
    by_cases hlt : k < xs.length
    · obtain ⟨g, c2, e2⟩ := owns_some HR.out (by omega)
      cases e2
      have q1 : (k : Int) < (xs.length : Int) := by omega
      obtain ⟨⟨u, hcu⟩, hfu, hbg, hgl⟩ := owns_cell HR.out hlt
      have hw8 := wrap8 (k0 + k)
      rw [Int.natCast_add] at hw8
      have HS : Hid ((wr.setCell ⟨g, k, none⟩ (vb (by8 (k0 + k)))).ownsRow B 5 1 (.slice (some ⟨g, 0, none⟩) xs.length cap) xs.length (vbs (half k0 xs (k + 1)))) := hid (by
        have h := (HR.out.stored k (vb (by8 (k0 + k)))).1
        have e : (vbs (half k0 xs k)).set k (vb (by8 (k0 + k))) = vbs (half k0 xs (k + 1)) := by
          unfold vbs
          rw [← half_set hlt]
          simp
        rw [e] at h
        exact h)
      have hb2 : w.grownBy (wr.setCell ⟨g, k, none⟩ (vb (by8 (k0 + k)))) (some g) := grown_set hbel k _
      unfold vb at HS hb2
      generalize ((by8 (k0 + k)).toNat : Int) = d at *
      go_wp2
      exact ⟨⟨k + 1, by simp, by simp; omega, by omega, HS, hb2⟩, by simp [intOf]; omega⟩
    · obtain rfl : k = xs.length := by omega
      have HS : Hid (Ob wr B (.slice a xs.length cap) (marksF k0 xs.length)) := hid (by unfold Ob; rw [marksF_len]; simpa [half] using HR.out)
      go_wp2
      go_ret
      exact ⟨rfl, HS.out, hbel⟩
set_option maxRecDepth 100000 in
set_option maxHeartbeats 2000000 in
theorem heldS (B : Nat) (v : Value) (n : Nat) (k0 : Nat) (w : World) (hn : n ≤ 1048576) (hk0 : k0 ≤ 17592186044416) (h : At w B v (marksF k0 n)) :
    Calls Try.prog 54 #[v, .int .i64 (k0 : Int)] w fun e w' => e = .returned (.int .i64 ((k0 : Int) + (n : Int))) ∧ w' = w := by
  obtain ⟨a, cap, rfl, _⟩ := h.slice
  have H1 := hid h
  clear h
  rw [marksF_len] at H1 ⊢
  go_enter Try.func54, Try.ntmps54
  go_wp2
  go_loop [1, 5] (fun q i => ∃ k : Nat, i = .int .i64 k ∧ q = .int .i64 ((k0 : Int) + (k : Int)) ∧ k ≤ n) (fun _ i => n - (intOf i).toNat)
  case atStart => exact ⟨0, rfl, by simp, Nat.zero_le _⟩
  case round =>
    obtain ⟨k, rfl, rfl, hk⟩ := hrel
    by_cases hlt : k < n
    · obtain ⟨g, o, rfl, hg, hc⟩ := H1.out.at (i := k) (by rw [marksF_len]; exact hlt)
      rw [marksF_get hlt] at hc
      have hw8 := wrap8 (k0 + k)
      rw [Int.natCast_add] at hw8
      simp only [vb] at hc
      generalize ((by8 (k0 + k)).toNat : Int) = d at *
      have hne : (d != d) = false := by simp
      have q1 : (k : Int) < (n : Int) := by omega
      go_wp2
      exact ⟨⟨k + 1, by simp, by simp; omega, by omega⟩, by simp [intOf]; omega⟩
    · obtain rfl : k = n := by omega
      go_wp2
      go_ret
      exact ⟨rfl, rfl⟩
end Jn
end Go.Proofs.Ytiliahibnhfhoaa
