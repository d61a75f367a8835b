/- SameTrees of the program. -/
import Derived.Test.YtlnmegfcecpfmahTrE
namespace Go.Proofs.Ytlnmegfcecpfmah
open Go.RowKit
set_option linter.unusedVariables false
namespace Tr
set_option maxRecDepth 100000 in
set_option maxHeartbeats 1000000 in
theorem sameElems (B1 B2 : Nat) (x y : ElemD) (v1 v2 : Value) (w : World) (hl : x.attrs.length ≤ 1048576) (hm : y.attrs.length ≤ 1048576) (h1 : AttrsAt w B1 v1 x.attrs) (h2 : AttrsAt w B2 v2 y.attrs) :
    Calls Try.prog 12 #[.agg #[.string x.tag, .int .i64 x.parent, v1], .agg #[.string y.tag, .int .i64 y.parent, v2]] w fun e w' => e = .returned (.bool (elemEq x y)) ∧ Below w.heap.size w w' := by
  obtain ⟨a1, c1, rfl⟩ := h1.slice
  obtain ⟨a2, c2, rfl⟩ := h2.slice
  have hB : Below w.heap.size w ((w.alloc (.cells #[.string x.tag, .int .i64 x.parent, .slice a1 x.attrs.length c1] 34)).alloc (.cells #[.string y.tag, .int .i64 y.parent, .slice a2 y.attrs.length c2] 34)) := ((Below.refl _ w).alloc (Nat.le_refl _) _).alloc (by simp) _
  have H1 := hid (h1.below hB)
  have H2 := hid (h2.below hB)
  clear h1 h2
  cases ht : (x.tag.toList == y.tag.toList)
  · have HV : Hid (elemEq x y = false) := hid (by simp [elemEq, ht])
    go_enter Try.func12, Try.ntmps12
    go_wp2
    go_ret
    exact ⟨by rw [HV.out]; rfl, hB⟩
  · cases hp : (x.parent == y.parent)
    · have HV : Hid (elemEq x y = false) := hid (by simp [elemEq, hp])
      go_enter Try.func12, Try.ntmps12
      go_wp2
      go_ret
      exact ⟨by rw [HV.out]; rfl, hB⟩
    · have HV : Hid (elemEq x y = attrsEq x.attrs y.attrs) := hid (by simp [elemEq, ht, hp])
      go_enter Try.func12, Try.ntmps12
      go_wp2_with fail
      refine (implAttrs B1 B2 x.attrs y.attrs _ _ _ hl hm H1.out H2.out).mono ?_
      rintro e w1 ⟨rfl, hb1⟩
      go_wp2
      go_ret
      exact ⟨by rw [HV.out]; rfl, hB.trans (hb1.mono (by simp; omega))⟩
set_option maxRecDepth 100000 in
set_option maxHeartbeats 2000000 in
theorem equalFunc (B1 B2 : Nat) (l m : List ElemD) (v1 v2 : Value) (w : World) (hl : SmallE 1048576 l) (hm : SmallE 1048576 m) (h1 : ElemsAt w B1 v1 l) (h2 : ElemsAt w B2 v2 m) :
    Calls Try.prog 11 #[v1, v2, .func (.func 12) #[] #[]] w fun e w' => e = .returned (.bool (elemsEq l m)) ∧ Below w.heap.size w w' := by
  obtain ⟨a1, c1, rfl⟩ := h1.slice
  obtain ⟨a2, c2, rfl⟩ := h2.slice
  have H1 : Hid (ElemsAt w B1 (.slice a1 l.length c1) l) := h1
  have H2 : Hid (ElemsAt w B2 (.slice a2 m.length c2) m) := h2
  have HL : Hid (SmallE 1048576 l) := hl
  have HM : Hid (SmallE 1048576 m) := hm
  have hlen := hl.1
  have hmen := hm.1
  clear h1 h2 hl hm
  by_cases he : l.length = m.length
  · have hb : ((l.length : Int) != (m.length : Int)) = false := by simp [he]
    have HE : Hid (l.length = m.length) := he
    clear he
    go_enter Try.func11, Try.ntmps11
    go_wp2
    go_loopw [7, 8, 9, 17] (fun _ _ _ i wr => ∃ k : Nat, i = .int .i64 k ∧ k ≤ l.length ∧ Hid (elemsEq l m = elemsEq (l.drop k) (m.drop k)) ∧ Below w.heap.size w wr) (fun _ _ _ i _ => l.length - (intOf i).toNat)
    case atStart => exact ⟨0, rfl, Nat.zero_le _, rfl, Below.refl _ _⟩
    case round =>
      obtain ⟨k, rfl, hk, HS, hbel⟩ := hrel
      by_cases hlt : k < l.length
      · have hlt2 : k < m.length := by rw [← HE.out]; exact hlt
        obtain ⟨g1, o1, va, rfl, hg1, p1, q1, r1, hva⟩ := (H1.out.below hbel).at hlt
        obtain ⟨g2, o2, vb, rfl, hg2, p2, q2, r2, hvb⟩ := (H2.out.below hbel).at hlt2
        have s1 : l[k].attrs.length ≤ 1048576 := by have := (HL.out.2 l[k] (List.getElem_mem hlt)).2.1; omega
        have s2 : m[k].attrs.length ≤ 1048576 := by have := (HM.out.2 m[k] (List.getElem_mem hlt2)).2.1; omega
        have HC : Hid (∀ w1 : World, Below wr.heap.size wr w1 → Calls Try.prog 12 #[.agg #[.string l[k].tag, .int .i64 l[k].parent, va], .agg #[.string m[k].tag, .int .i64 m[k].parent, vb]] w1 fun e w' => e = .returned (.bool (elemEq l[k] m[k])) ∧ Below w1.heap.size w1 w') := fun w1 h => sameElems B1 B2 l[k] m[k] va vb w1 s1 s2 (hva.below h) (hvb.below h)
        obtain ⟨a3, c3, rfl⟩ := hva.slice
        obtain ⟨a4, c4, rfl⟩ := hvb.slice
        clear hva hvb
        have t1 : (k : Int) < (l.length : Int) := by omega
        have t2 : (k : Int) < (m.length : Int) := by omega
        go_wp2_with fail
        refine (HC.out _ ?hB).mono ?_
        case hB => exact ((Below.refl _ wr).alloc (Nat.le_refl _) _).alloc (by simp) _
        rintro e w1 ⟨rfl, hb1⟩
        have hB1 : Below wr.heap.size wr w1 := (((Below.refl _ wr).alloc (Nat.le_refl _) _).alloc (by simp) _).trans (hb1.mono (by simp; omega))
        have hB2 := hbel.trans (hB1.mono hbel.size)
        cases hE : elemEq l[k] m[k]
        · have HF : Hid (elemsEq l m = false) := hid (by rw [HS.out, elemsEq_step hlt hlt2, hE, Bool.false_and])
          clear hE
          go_wp2
          go_ret
          exact ⟨by rw [HF.out]; rfl, hB2⟩
        · have HF : Hid (elemsEq l m = elemsEq (l.drop (k + 1)) (m.drop (k + 1))) := hid (by rw [HS.out, elemsEq_step hlt hlt2, hE, Bool.true_and])
          clear hE
          go_wp2
          exact ⟨⟨k + 1, by simp, by omega, HF, hB2⟩, by simp [intOf]; omega⟩
      · have HT : Hid (elemsEq l m = true) := hid (by rw [HS.out]; exact elemsEq_end (by omega) (by have := HE.out; omega))
        go_wp2
        go_ret
        exact ⟨by rw [HT.out]; rfl, hbel⟩
  · have hb : ((l.length : Int) != (m.length : Int)) = true := bne_iff_ne.2 (fun e => he (by omega))
    have HE : Hid (elemsEq l m = false) := elemsEq_len he
    clear he
    go_enter Try.func11, Try.ntmps11
    go_wp2
    go_ret
    exact ⟨by rw [HE.out]; rfl, Below.refl _ _⟩
set_option maxRecDepth 100000 in
set_option maxHeartbeats 1000000 in
theorem implSame (B1 B2 : Nat) (l m : List ElemD) (v1 v2 : Value) (w : World) (hl : SmallE 1048576 l) (hm : SmallE 1048576 m) (h1 : ElemsAt w B1 v1 l) (h2 : ElemsAt w B2 v2 m) :
    Calls Try.prog 7 #[v1, v2] w fun e w' => e = .returned (.bool (elemsEq l m)) ∧ Below w.heap.size w w' := by
  have HC := hid (equalFunc B1 B2 l m v1 v2 w hl hm h1 h2)
  obtain ⟨a1, c1, rfl⟩ := h1.slice
  obtain ⟨a2, c2, rfl⟩ := h2.slice
  clear h1 h2 hl hm
  go_enter Try.func7, Try.ntmps7
  go_wp2_with fail
  refine HC.out.mono ?_
  rintro e w1 ⟨rfl, hb1⟩
  go_wp2
  go_ret
  exact ⟨rfl, hb1⟩
end Tr
end Go.Proofs.Ytlnmegfcecpfmah
