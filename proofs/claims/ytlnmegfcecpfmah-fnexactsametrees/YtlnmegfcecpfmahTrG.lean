/- SameTrees of the specification. -/
import Derived.Test.YtlnmegfcecpfmahTrE
namespace Go.Proofs.Ytlnmegfcecpfmah
open Go.RowKit
set_option linter.unusedVariables false
namespace Tr
theorem bne_str {a b : ByteArray} {c : Bool} (h : (a.toList == b.toList) = c) : (a.toList != b.toList) = !c := by rw [bne, h]
theorem bne_int {a b : Int} {c : Bool} (h : (a == b) = c) : (a != b) = !c := by rw [bne, h]
set_option maxRecDepth 100000 in
set_option maxHeartbeats 4000000 in
theorem specSame (B1 B2 : Nat) (l m : List ElemD) (v1 v2 : Value) (w : World) (hl : SmallE 1048576 l) (hm : SmallE 1048576 m) (h1 : ElemsAt w B1 v1 l) (h2 : ElemsAt w B2 v2 m) :
    Calls Try.prog 5 #[v1, v2] w fun e w' => e = .returned (.bool (elemsEq l m)) ∧ Below w.heap.size w w' := by
  obtain ⟨a1, c1, rfl⟩ := h1.slice
  obtain ⟨a2, c2, rfl⟩ := h2.slice
  have H1 : Hid (ElemsAt w B1 (.slice a1 l.length c1) l) := h1
  have H2 : Hid (ElemsAt w B2 (.slice a2 m.length c2) m) := h2
  have HL : Hid (SmallE 1048576 l) := hl
  have HM : Hid (SmallE 1048576 m) := hm
  have hlen := hl.1
  have hmen := hm.1
  clear h1 h2 hl hm
  by_cases he : l.length = m.length
  · have hb : ((l.length : Int) != (m.length : Int)) = false := by simp [he]
    have HE : Hid (l.length = m.length) := he
    clear he
    go_enter Try.func5, Try.ntmps5
    go_wp2
    go_loopw [5, 6] (fun i _ wr => ∃ k : Nat, i = .int .i64 k ∧ k ≤ l.length ∧ Hid (elemsEq l m = elemsEq (l.drop k) (m.drop k)) ∧ Below w.heap.size w wr) (fun i _ _ => l.length - (intOf i).toNat)
    case atStart => exact ⟨0, rfl, Nat.zero_le _, rfl, Below.refl _ _⟩
    case round =>
      obtain ⟨k, rfl, hk, HS, hbel⟩ := hrel
      by_cases hlt : k < l.length
      · have hlt2 : k < m.length := by rw [← HE.out]; exact hlt
        obtain ⟨g1, o1, va, rfl, hg1, p1, q1, r1, hva⟩ := (H1.out.below hbel).at hlt
        obtain ⟨g2, o2, vb, rfl, hg2, p2, q2, r2, hvb⟩ := (H2.out.below hbel).at hlt2
        have s1 : l[k].attrs.length ≤ 1048576 := by have := (HL.out.2 l[k] (List.getElem_mem hlt)).2.1; omega
        have s2 : m[k].attrs.length ≤ 1048576 := by have := (HM.out.2 m[k] (List.getElem_mem hlt2)).2.1; omega
        obtain ⟨a3, c3, rfl⟩ := hva.slice
        obtain ⟨a4, c4, rfl⟩ := hvb.slice
        have HVA := hid hva
        have HVB := hid hvb
        clear hva hvb
        have t1 : (k : Int) < (l.length : Int) := by omega
        have t2 : (k : Int) < (m.length : Int) := by omega
        cases ht : (l[k].tag.toList == m[k].tag.toList)
        · have HF : Hid (elemsEq l m = false) := hid (by rw [HS.out, elemsEq_step hlt hlt2]; simp [elemEq, ht])
          have b1 := bne_str ht
          simp only [Bool.not_false] at b1
          go_wp2
          go_quiet (fail)
          go_wp2
          go_ret
          exact ⟨by rw [HF.out]; rfl, below_drewN hbel nq⟩
        have b1 := bne_str ht
        simp only [Bool.not_true] at b1
        cases hp : (l[k].parent == m[k].parent)
        · have HF : Hid (elemsEq l m = false) := hid (by rw [HS.out, elemsEq_step hlt hlt2]; simp [elemEq, hp])
          have b2 := bne_int hp
          simp only [Bool.not_false] at b2
          go_wp2
          go_quiet (fail)
          go_wp2
          go_ret
          exact ⟨by rw [HF.out]; rfl, below_drewN hbel nq⟩
        have b2 := bne_int hp
        simp only [Bool.not_true] at b2
        by_cases ha : l[k].attrs.length = m[k].attrs.length
        · have HA : Hid (l[k].attrs.length = m[k].attrs.length) := ha
          have b3 : ((l[k].attrs.length : Int) != (m[k].attrs.length : Int)) = false := by simp [ha]
          have HG : Hid (elemsEq l m = (attrsEq l[k].attrs m[k].attrs && elemsEq (l.drop (k + 1)) (m.drop (k + 1)))) := hid (by rw [HS.out, elemsEq_step hlt hlt2]; simp [elemEq, ht, hp])
          clear ha
          have HP : Hid (∀ ws, Below wr.heap.size wr ws → Below w.heap.size w ws ∧ ws.cell? ⟨g1, o1 + k * 3 + 2, none⟩ = some (.slice a3 l[k].attrs.length c3) ∧ ws.cell? ⟨g2, o2 + k * 3 + 2, none⟩ = some (.slice a4 m[k].attrs.length c4) ∧ AttrsAt ws B1 (.slice a3 l[k].attrs.length c3) l[k].attrs ∧ AttrsAt ws B2 (.slice a4 m[k].attrs.length c4) m[k].attrs) :=
            fun ws h => ⟨hbel.trans (h.mono hbel.size), (h.cell (p := ⟨g1, o1 + k * 3 + 2, none⟩) hg1).trans r1, (h.cell (p := ⟨g2, o2 + k * 3 + 2, none⟩) hg2).trans r2, HVA.out.below h, HVB.out.below h⟩
          go_wp2
          go_quiet (fail)
          go_wp2
          clear p1 p2 q1 q2 r1 r2 ht hp b1 b2
          go_loopw [6] (fun i ws => ∃ j : Nat, i = .int .i64 j ∧ j ≤ l[k].attrs.length ∧ Hid (attrsEq l[k].attrs m[k].attrs = attrsEq (l[k].attrs.drop j) (m[k].attrs.drop j)) ∧ Below wr.heap.size wr ws) (fun i _ => l[k].attrs.length - (intOf i).toNat)
          case atStart => exact ⟨0, rfl, Nat.zero_le _, rfl, below_drewN (Below.refl _ _) nq⟩
          case round =>
            obtain ⟨j, rfl, hj, HJ, hbel2⟩ := hrel
            obtain ⟨hbw, r1, r2, hva, hvb⟩ := HP.out _ hbel2
            by_cases hlj : j < l[k].attrs.length
            · have hlj2 : j < m[k].attrs.length := by rw [← HA.out]; exact hlj
              obtain ⟨g3, o3, rfl, hg3, p3, q3⟩ := hva.at hlj
              obtain ⟨g4, o4, rfl, hg4, p4, q4⟩ := hvb.at hlj2
              clear hva hvb HVA HVB
              have u1 : (j : Int) < (l[k].attrs.length : Int) := by omega
              have u2 : (j : Int) < (m[k].attrs.length : Int) := by omega
              have hq := fun wx => neqAttr l[k].attrs[j] m[k].attrs[j] wx
              have hgd := fun (op : BinOp) (x y : Operand) (wx : World) => run_eqGuard_agg (P := Try.prog) wx op 36 x y #[.string l[k].attrs[j].name, .string l[k].attrs[j].value] #[.string m[k].attrs[j].name, .string m[k].attrs[j].value] at_guard
              cases hE : attrEq l[k].attrs[j] m[k].attrs[j]
              · have HF : Hid (elemsEq l m = false) := hid (by rw [HG.out, HJ.out, attrsEq_step hlj hlj2, hE, Bool.false_and, Bool.false_and])
                rw [hE] at hq
                go_wp2
                go_quiet (fail)
                go_wp2
                go_ret
                exact ⟨by rw [HF.out]; rfl, below_drewN hbw nq⟩
              · have HF : Hid (attrsEq l[k].attrs m[k].attrs = attrsEq (l[k].attrs.drop (j + 1)) (m[k].attrs.drop (j + 1))) := hid (by rw [HJ.out, attrsEq_step hlj hlj2, hE, Bool.true_and])
                rw [hE] at hq
                go_wp2
                go_quiet (fail)
                go_wp2
                exact ⟨⟨j + 1, by simp, by omega, HF, below_drewN hbel2 nq⟩, by simp [intOf]; omega⟩
            · have HF : Hid (elemsEq l m = elemsEq (l.drop (k + 1)) (m.drop (k + 1))) := hid (by rw [HG.out, HJ.out, attrsEq_end (by omega) (by have := HA.out; omega), Bool.true_and])
              clear hva hvb HVA HVB
              go_wp2
              exact ⟨⟨k + 1, by simp, by omega, HF, hbw⟩, by simp [intOf]; omega⟩
        · have HF : Hid (elemsEq l m = false) := hid (by rw [HS.out, elemsEq_step hlt hlt2]; simp [elemEq, attrsEq_len ha])
          have b3 : ((l[k].attrs.length : Int) != (m[k].attrs.length : Int)) = true := bne_iff_ne.2 (fun e => ha (by omega))
          clear ha
          go_wp2
          go_quiet (fail)
          go_wp2
          go_ret
          exact ⟨by rw [HF.out]; rfl, below_drewN hbel nq⟩
      · have HT : Hid (elemsEq l m = true) := hid (by rw [HS.out]; exact elemsEq_end (by omega) (by have := HE.out; omega))
        go_wp2
        go_ret
        exact ⟨by rw [HT.out]; rfl, hbel⟩
  · have hb : ((l.length : Int) != (m.length : Int)) = true := bne_iff_ne.2 (fun e => he (by omega))
    have HE : Hid (elemsEq l m = false) := elemsEq_len he
    clear he
    go_enter Try.func5, Try.ntmps5
    go_wp2
    go_ret
    exact ⟨by rw [HE.out]; rfl, Below.refl _ _⟩
end Tr
end Go.Proofs.Ytlnmegfcecpfmah
