/- Laid together: TrT, PoG. -/
import Derived.Test.YtahkpgffoiaeiaaGreatDoorJProcOf14
import Derived.Test.YtahkpgffoiaeiaaGreatDoorJProcOf26
import Derived.Test.YtahkpgffoiaeiaaGreatDoorJProcOf50
import Derived.Test.YtahkpgffoiaeiaaGreatDoorJProcOf19
/- TreeFault of the specification. -/
namespace Go.Proofs.YtahkpgffoiaeiaaGreatDoor
open Go.RowKit
set_option linter.unusedVariables false
namespace Tr
set_option maxRecDepth 100000 in
set_option maxHeartbeats 4000000 in
theorem specFault1 (B : Nat) (es : List ElemD) (v : Value) (w : World) (hl : es.length ≤ 1048576) (hk : OkE es) (ha : ElemsAt w B v es) :
    Calls Tryz.prog 14 #[v] w fun e w' => e = .returned (.int .i64 (fault es)) ∧ Below w.heap.size w w' := by
  obtain ⟨a, cap, rfl⟩ := ha.slice
  have HA := hid ha
  have HK := hid hk
  clear ha hk
  by_cases z1 : es.length < 1
  · have HV := hid (fault_many (.inl z1))
    have q : (es.length : Int) < 1 := by omega
    go_enter Tryz.func14, Tryz.ntmps14
    go_wp2
    go_ret
    exact ⟨by rw [HV.out]; rfl, Below.refl _ _⟩
  by_cases z2 : 40 < es.length
  · have HV := hid (fault_many (.inr z2))
    have q : ¬ (es.length : Int) < 1 := by omega
    have q' : (40 : Int) < (es.length : Int) := by omega
    go_enter Tryz.func14, Tryz.ntmps14
    go_wp2
    go_ret
    exact ⟨by rw [HV.out]; rfl, Below.refl _ _⟩
  have q : ¬ (es.length : Int) < 1 := by omega
  have q' : ¬ (40 : Int) < (es.length : Int) := by omega
  have HZ := hid (Seen.start z1 z2)
  have hl40 : es.length ≤ 40 := by omega
  clear z1 z2
  go_enter Tryz.func14, Tryz.ntmps14
  go_wp2
  go_loopw [3, 4, 5, 6] (fun x _ _ _ wr => ∃ (i : Nat) (S : List Nat), x = .int .i64 i ∧ Hid (Seen es i S) ∧ i ≤ es.length ∧ Hid (Below w.heap.size w wr)) (fun x _ _ _ _ => es.length - (intOf x).toNat)
  case atStart => exact ⟨0, [], rfl, HZ, Nat.zero_le _, Below.refl _ _⟩
  case round =>
    obtain ⟨i, S, rfl, HS, hil, HB⟩ := hrel
    by_cases hlt : i < es.length
    · have hA := HA.out.below HB.out
      obtain ⟨g, o, va, rfl, hg, c0, c1, c2, hva⟩ := hA.at hlt
      have q1 : (i : Int) < (es.length : Int) := by omega
      have hkk := HK.out es[i] (List.getElem_mem hlt)
      have k1 := hkk.1
      have HKA := hid hkk.2.1
      clear hkk
      have HN := hid (fun w' => spec_nf1 es[i].tag w' k1)
      by_cases hn : nf es[i].tag.data.toList = 0
      · have b1 : (nf es[i].tag.data.toList != 0) = false := by simp [hn]
        by_cases hp : (i = 0 ∧ es[i].parent ≠ -1) ∨ (0 < i ∧ ¬ (0 ≤ es[i].parent ∧ es[i].parent < i))
        · have HV := hid (HS.out.range hlt hn hp)
          obtain ⟨b, e2, rfl⟩ := hva.slice
          rcases hp with ⟨hi0, hp⟩ | ⟨hi0, hp⟩
          · have r1 : ((i : Int) == 0) = true := beq_iff_eq.2 (by omega)
            have r2 : (es[i].parent != -1) = true := bne_iff_ne.2 hp
            clear hA hva hi0 hp hn
            go_wp2_with (go_at_call 27; refine (HN.out _).mono ?_; rintro e w' ⟨rfl, rfl⟩)
            go_ret
            exact ⟨by rw [HV.out]; rfl, HB.out⟩
          · have r1 : ((i : Int) == 0) = false := beq_eq_false_iff_ne.2 (by omega)
            have r2 : (0 : Int) < (i : Int) := by omega
            have HI := hid (fun w' => specIn es[i].parent 0 ((i : Int) - 1) w')
            have r3 : (decide (0 ≤ es[i].parent) && decide (es[i].parent ≤ (i : Int) - 1)) = false := by
              rw [← Bool.not_eq_true]; intro e; apply hp; simp at e; omega
            rw [r3] at HI
            clear hA hva hi0 hp hn r3
            go_wp2_with (first | (go_at_call 27; refine (HN.out _).mono ?_; rintro e w' ⟨rfl, rfl⟩) | (go_at_call 28; refine (HI.out _).mono ?_; rintro e w' ⟨rfl, rfl⟩))
            go_ret
            exact ⟨by rw [HV.out]; rfl, HB.out⟩
        · by_cases hf : 0 < i ∧ onPath es[i].parent S = false
          · have HV := hid (HS.out.form hlt hn hp hf)
            have HL := hid (specLine B es _ i S wr hl40 hlt HS.out.chain HS.out.first hA)
            rw [hf.2] at HL
            obtain ⟨b, e2, rfl⟩ := hva.slice
            have hi0 := hf.1
            have r1 : ((i : Int) == 0) = false := beq_eq_false_iff_ne.2 (by omega)
            have r2 : (0 : Int) < (i : Int) := by omega
            have HI := hid (fun w' => specIn es[i].parent 0 ((i : Int) - 1) w')
            have r3 : (decide (0 ≤ es[i].parent) && decide (es[i].parent ≤ (i : Int) - 1)) = true := by
              have : ¬ ¬ (0 ≤ es[i].parent ∧ es[i].parent < i) := fun e => hp (.inr ⟨hi0, e⟩)
              simp; omega
            rw [r3] at HI
            clear hA hva hi0 hp hn r3 hf
            go_wp2_with (first | (go_at_call 27; refine (HN.out _).mono ?_; rintro e w' ⟨rfl, rfl⟩) | (go_at_call 28; refine (HI.out _).mono ?_; rintro e w' ⟨rfl, rfl⟩) | (go_at_call 29; refine HL.out.mono ?_; rintro e w' ⟨rfl, rfl⟩))
            go_ret
            exact ⟨by rw [HV.out]; rfl, HB.out⟩
          · have hch := next_chain HS.out.chain HS.out.first hlt hp hf
            have hcl : (cutTo es[i].parent S).length ≤ 8 := Nat.le_trans cut_le HS.out.deep
            have HD : Hid (Calls Tryz.prog 30 #[.slice (some ⟨g, o, none⟩) es.length cap, .int .i64 (i : Int)] wr fun e w' => e = .returned (.int .i64 (((cutTo es[i].parent S).length : Int) + 1)) ∧ w' = wr) := hid (by
              have h := specDeep B es _ (i :: cutTo es[i].parent S) wr hl40 hch (by simp only [List.length_cons]; omega) hA
              have e1 : ((i :: cutTo es[i].parent S).length : Int) = ((cutTo es[i].parent S).length : Int) + 1 := by simp
              rw [e1] at h
              exact h)
            clear hch
            have H6 : Hid (8 < (cutTo es[i].parent S).length + 1 ∨ 6 < es[i].attrs.length → fault es = 2) := hid (fun hm => HS.out.many hlt hn hp hf hm)
            have H7 : Hid (¬ (8 < (cutTo es[i].parent S).length + 1 ∨ 6 < es[i].attrs.length) → acode es[i].attrs ≠ 0 → fault es = acode es[i].attrs) := hid (fun hm h => HS.out.attr hlt hn hp hf hm h)
            have H8 : Hid (¬ (8 < (cutTo es[i].parent S).length + 1 ∨ 6 < es[i].attrs.length) → acode es[i].attrs = 0 → Seen es (i + 1) (i :: cutTo es[i].parent S)) := hid (fun hm h => HS.out.next hlt hn hp hf hm h)
            obtain ⟨b, e2, rfl⟩ := hva.slice
            have HVA := hid hva
            have HLx : Hid (0 < i → Calls Tryz.prog 29 #[.slice (some ⟨g, o, none⟩) es.length cap, .int .i64 (i : Int)] wr fun e w' => e = .returned (.bool true) ∧ w' = wr) := hid (fun h0 => by
              have h := specLine B es _ i S wr hl40 hlt HS.out.chain HS.out.first hA
              cases hb : onPath es[i].parent S
              · exact absurd ⟨h0, hb⟩ hf
              · rw [hb] at h; exact h)
            have HIx : Hid (0 < i → ∀ w', Calls Tryz.prog 28 #[.int .i64 es[i].parent, .int .i64 0, .int .i64 ((i : Int) - 1)] w' fun e w1 => e = .returned (.bool true) ∧ w1 = w') := hid (fun h0 w' => by
              have h := specIn es[i].parent 0 ((i : Int) - 1) w'
              have r3 : (decide (0 ≤ es[i].parent) && decide (es[i].parent ≤ (i : Int) - 1)) = true := by
                have : ¬ ¬ (0 ≤ es[i].parent ∧ es[i].parent < i) := fun e => hp (.inr ⟨h0, e⟩)
                simp; omega
              rw [r3] at h
              exact h)
            have hp0 : i = 0 → (es[i].parent != -1) = false := fun h0 => by
              have : ¬ es[i].parent ≠ -1 := fun e => hp (.inl ⟨h0, e⟩)
              simp only [bne_eq_false_iff_eq]; omega
            have HP0 := hid hp0
            clear hp0 hA hva hp hf hn
            generalize (cutTo es[i].parent S).length = dp at *
            rcases Nat.eq_zero_or_pos i with hi0 | hi0
            · have r1 : ((i : Int) == 0) = true := beq_iff_eq.2 (by omega)
              have r2 := HP0.out hi0
              have r3 : ¬ (0 : Int) < (i : Int) := by omega
              clear HLx HIx HP0 hi0
              by_cases m1 : 8 < dp + 1
              · have HV := hid (H6.out (.inl m1))
                have t1 : (8 : Int) < (dp : Int) + 1 := by omega
                go_wp2_with (first | (go_at_call 27; refine (HN.out _).mono ?_; rintro e w' ⟨rfl, rfl⟩) | (go_at_call 30; refine HD.out.mono ?_; rintro e w' ⟨rfl, rfl⟩))
                go_ret
                exact ⟨by rw [HV.out]; rfl, HB.out⟩
              have t1 : ¬ (8 : Int) < (dp : Int) + 1 := by omega
              by_cases m2 : 6 < es[i].attrs.length
              · have HV := hid (H6.out (.inr m2))
                have t2 : (6 : Int) < (es[i].attrs.length : Int) := by omega
                go_wp2_with (first | (go_at_call 27; refine (HN.out _).mono ?_; rintro e w' ⟨rfl, rfl⟩) | (go_at_call 30; refine HD.out.mono ?_; rintro e w' ⟨rfl, rfl⟩))
                go_ret
                exact ⟨by rw [HV.out]; rfl, HB.out⟩
              have t2 : ¬ (6 : Int) < (es[i].attrs.length : Int) := by omega
              have HAT := hid (specAttrs B es[i].attrs _ wr (by omega) HKA.out HVA.out)
              by_cases ha : acode es[i].attrs = 0
              · have HV := hid (H8.out (by omega) ha)
                have t3 : (acode es[i].attrs != 0) = false := by simp [ha]
                rw [ha] at HAT
                go_wp2_with (first | (go_at_call 27; refine (HN.out _).mono ?_; rintro e w' ⟨rfl, rfl⟩) | (go_at_call 30; refine HD.out.mono ?_; rintro e w' ⟨rfl, rfl⟩) | (go_at_call 31; refine HAT.out.mono ?_; rintro e w' ⟨rfl, hb⟩))
                exact ⟨⟨i + 1, _, by simp, HV, by omega, hid (HB.out.trans (hb.mono HB.out.size))⟩, by simp [intOf]; omega⟩
              · have HV := hid (H7.out (by omega) ha)
                have t3 : (acode es[i].attrs != 0) = true := by simpa using ha
                go_wp2_with (first | (go_at_call 27; refine (HN.out _).mono ?_; rintro e w' ⟨rfl, rfl⟩) | (go_at_call 30; refine HD.out.mono ?_; rintro e w' ⟨rfl, rfl⟩) | (go_at_call 31; refine HAT.out.mono ?_; rintro e w' ⟨rfl, hb⟩))
                go_ret
                exact ⟨by rw [HV.out]; rfl, HB.out.trans (hb.mono HB.out.size)⟩
            · have r1 : ((i : Int) == 0) = false := beq_eq_false_iff_ne.2 (by omega)
              have r3 : (0 : Int) < (i : Int) := by omega
              have HI := hid (HIx.out hi0)
              have HL := hid (HLx.out hi0)
              clear HLx HIx HP0
              by_cases m1 : 8 < dp + 1
              · have HV := hid (H6.out (.inl m1))
                have t1 : (8 : Int) < (dp : Int) + 1 := by omega
                go_wp2_with (first | (go_at_call 27; refine (HN.out _).mono ?_; rintro e w' ⟨rfl, rfl⟩) | (go_at_call 30; refine HD.out.mono ?_; rintro e w' ⟨rfl, rfl⟩) | (go_at_call 28; refine (HI.out _).mono ?_; rintro e w' ⟨rfl, rfl⟩) | (go_at_call 29; refine HL.out.mono ?_; rintro e w' ⟨rfl, rfl⟩))
                go_ret
                exact ⟨by rw [HV.out]; rfl, HB.out⟩
              have t1 : ¬ (8 : Int) < (dp : Int) + 1 := by omega
              by_cases m2 : 6 < es[i].attrs.length
              · have HV := hid (H6.out (.inr m2))
                have t2 : (6 : Int) < (es[i].attrs.length : Int) := by omega
                go_wp2_with (first | (go_at_call 27; refine (HN.out _).mono ?_; rintro e w' ⟨rfl, rfl⟩) | (go_at_call 30; refine HD.out.mono ?_; rintro e w' ⟨rfl, rfl⟩) | (go_at_call 28; refine (HI.out _).mono ?_; rintro e w' ⟨rfl, rfl⟩) | (go_at_call 29; refine HL.out.mono ?_; rintro e w' ⟨rfl, rfl⟩))
                go_ret
                exact ⟨by rw [HV.out]; rfl, HB.out⟩
              have t2 : ¬ (6 : Int) < (es[i].attrs.length : Int) := by omega
              have HAT := hid (specAttrs B es[i].attrs _ wr (by omega) HKA.out HVA.out)
              by_cases ha : acode es[i].attrs = 0
              · have HV := hid (H8.out (by omega) ha)
                have t3 : (acode es[i].attrs != 0) = false := by simp [ha]
                rw [ha] at HAT
                go_wp2_with (first | (go_at_call 27; refine (HN.out _).mono ?_; rintro e w' ⟨rfl, rfl⟩) | (go_at_call 30; refine HD.out.mono ?_; rintro e w' ⟨rfl, rfl⟩) | (go_at_call 28; refine (HI.out _).mono ?_; rintro e w' ⟨rfl, rfl⟩) | (go_at_call 29; refine HL.out.mono ?_; rintro e w' ⟨rfl, rfl⟩) | (go_at_call 31; refine HAT.out.mono ?_; rintro e w' ⟨rfl, hb⟩))
                exact ⟨⟨i + 1, _, by simp, HV, by omega, hid (HB.out.trans (hb.mono HB.out.size))⟩, by simp [intOf]; omega⟩
              · have HV := hid (H7.out (by omega) ha)
                have t3 : (acode es[i].attrs != 0) = true := by simpa using ha
                go_wp2_with (first | (go_at_call 27; refine (HN.out _).mono ?_; rintro e w' ⟨rfl, rfl⟩) | (go_at_call 30; refine HD.out.mono ?_; rintro e w' ⟨rfl, rfl⟩) | (go_at_call 28; refine (HI.out _).mono ?_; rintro e w' ⟨rfl, rfl⟩) | (go_at_call 29; refine HL.out.mono ?_; rintro e w' ⟨rfl, rfl⟩) | (go_at_call 31; refine HAT.out.mono ?_; rintro e w' ⟨rfl, hb⟩))
                go_ret
                exact ⟨by rw [HV.out]; rfl, HB.out.trans (hb.mono HB.out.size)⟩
      · have b1 : (nf es[i].tag.data.toList != 0) = true := by simpa using hn
        have HV := hid (HS.out.name hlt hn)
        obtain ⟨b, e2, rfl⟩ := hva.slice
        clear hA hva hn
        go_wp2_with (go_at_call 27; refine (HN.out _).mono ?_; rintro e w' ⟨rfl, rfl⟩)
        go_ret
        exact ⟨by rw [HV.out]; rfl, HB.out⟩
    · have HV := hid (HS.out.done hlt)
      go_wp2
      go_ret
      exact ⟨by rw [HV.out]; rfl, HB.out⟩
end Tr
end Go.Proofs.YtahkpgffoiaeiaaGreatDoor
/- The specification's ProcOf. -/
namespace Go.Proofs.YtahkpgffoiaeiaaGreatDoor
open Go.RowKit
set_option linter.unusedVariables false
namespace Po
open Ex (hid inR nvals)
open Nd (NodeD)
open St (StepD)
open Tr (AttrD ElemD AttrsAt ElemsAt acode fault OkE)
open Nst (own)
open So (SOwn SJ scell)
open Pf (pFault)
theorem ret2 {c d : Int} {u : Value} (h : c = d) : Ending.returned (.agg #[.int .i64 c, u]) = .returned (.agg #[.int .i64 d, u]) := by rw [h]
set_option maxRecDepth 100000 in
set_option maxHeartbeats 8000000 in
theorem specProcOf (B : Nat) (es : List ElemD) (v : Value) (w : World) (hl : es.length ≤ 1048576) (hok : OkE es) (ha : ElemsAt w B v es) :
    Calls Tryz.prog 5 #[v] w fun e w' => (∃ u, e = .returned (.agg #[.int .i64 (procC es), u]) ∧ SOwn w' w.heap.size u (procS es)) ∧ Below w.heap.size w w' := by
  obtain ⟨a, cap, rfl⟩ := ha.slice
  have HB0 : Hid (Below w.heap.size w (w.alloc (.cells #[.int .i64 0, .slice none 0 0] 26))) := hid ((Below.refl _ w).alloc (Nat.le_refl _) _)
  have HF := hid (Tr.specFault1 B es _ _ hl hok (ha.below HB0.out))
  have HA := hid ha
  obtain ⟨j0, hj, hy0, hy1, hy2⟩ := info_parts So.infoStep
  clear ha hok hl
  go_enter Tryz.func5, Tryz.ntmps5
  go_wp2_with fail
  refine HF.out.mono ?_
  rintro e w1 ⟨rfl, hb1⟩
  have HB1 : Hid (Below w.heap.size w w1) := hid (HB0.out.trans (hb1.mono HB0.out.size))
  have hrb : w1.heap[w.heap.size]? = some (.cells #[.int .i64 0, .slice none 0 0] 26) := (hb1.block _ (by simp)).trans (heap_alloc_new w _)
  have l1 : w.heap.size < w1.heap.size := by have := hb1.size; simp at this; omega
  have HRC : Hid (∀ w', Below w1.heap.size w1 w' → (w'.cell? ⟨w.heap.size, 0, none⟩ = some (.int .i64 0) ∧ w'.cell? ⟨w.heap.size, 1, none⟩ = some (.slice none 0 0)) ∧ (w'.frozen? ⟨w.heap.size, 0, none⟩ = false ∧ w'.frozen? ⟨w.heap.size, 1, none⟩ = false) ∧ w.heap.size < w'.heap.size) := hid (fun w' hb => by
    have h := (hb.block _ l1).trans hrb
    exact ⟨⟨blk_cell h 0, blk_cell h 1⟩, ⟨blk_free h 0, blk_free h 1⟩, Nat.lt_of_lt_of_le l1 hb.size⟩)
  clear HF hb1 hrb
  by_cases hf : fault es = 0
  · have h40 := (fault_len hf).2
    have HFA : Hid (∀ e ∈ es, acode e.attrs = 0 ∧ e.attrs.length ≤ 6) := hid (fun e he => fault_at hf he)
    have HSMP := hid (steps_small hf)
    have HF0 := hid hf
    have HO0 : Hid (SOwn (w1.alloc (.cells #[] 42)) w1.heap.size (.slice (some ⟨w1.heap.size, 0, none⟩) 0 0) ((es.take 0).map stepS)) := hid ⟨fun _ => .slice none 0 0, fun _ => .slice none 0 0, ⟨World.ownsRow_made w1 #[] 0 (Nat.le_refl _) (by decide) (by simp), fun i h => by simp at h, fun i j h => by simp at h, fun i h => by simp at h⟩⟩
    have HBL : Hid (Below w1.heap.size w1 (w1.alloc (.cells #[] 42))) := hid ((Below.refl _ w1).alloc (Nat.le_refl _) _)
    rw [hf]
    clear hf
    go_wp2_with fail
    go_loopw [4, 5, 6, 7] (fun pv i s6 s7 wr => ∃ (j : Nat), i = .int .i64 j ∧ j ≤ es.length ∧ (∃ a7 n7 c7, pv = .slice a7 n7 c7) ∧ (∃ x6 x7, s6 = x6 ∧ s7 = x7) ∧ Hid (∀ x (hx : x < es.length), x < j → stepC es[x] = 0) ∧ Hid (SOwn wr w1.heap.size pv ((es.take j).map stepS)) ∧ Hid (Below w1.heap.size w1 wr)) (fun _ i _ _ _ => es.length - (intOf i).toNat)
    case atStart => exact ⟨0, rfl, Nat.zero_le _, ⟨_, _, _, rfl⟩, ⟨_, _, rfl, rfl⟩, hid (fun x _ h => by omega), HO0, HBL⟩
    case round =>
      obtain ⟨j, rfl, hjl, ⟨a7, n7, c7, rfl⟩, ⟨x6, x7, rfl, rfl⟩, HZ, HO, HB⟩ := hrel
      by_cases hlt : j < es.length
      · have q1 : (j : Int) < (es.length : Int) := by omega
        obtain ⟨g, o, va, rfl, hg, c0, c1, c2, hva⟩ := (HA.out.below (HB1.out.trans (HB.out.mono HB1.out.size))).at hlt
        have HST := hid (specStep B g (o + j * 3) es[j] va wr (HFA.out _ (List.getElem_mem hlt)).1 (HFA.out _ (List.getElem_mem hlt)).2 hg c0 c1 c2 hva)
        have HTS := hid (map_snoc hlt)
        have HPS := hid (fun (hc : stepC es[j] ≠ 0) => proc_step HF0.out hlt hc HZ.out)
        have HZ2 : Hid (stepC es[j] = 0 → ∀ x (hx : x < es.length), x < j + 1 → stepC es[x] = 0) := hid (fun hc x hx h => by
          by_cases e : x = j
          · subst e; exact hc
          · exact HZ.out x hx (by omega))
        have htl : ((es.take j).map stepS).length ≤ 40 := by simp; omega
        generalize es[j] = ej at *
        generalize htr : (es.take j).map stepS = tr at *
        clear hva htr c0 c1 c2
        go_wp2_with fail
        refine HST.out.mono ?_
        rintro e w3 ⟨hd, hb3⟩
        have HB3 := hid hb3
        have HB13 := hid (HB.out.trans (hb3.mono HB.out.size))
        clear hb3 HST
        rcases hd with ⟨h1, z0, z1, z2, z3, ac, nc, cc, ae, ne, ce, rfl⟩ | ⟨h1, ac, cc, ae, ce, rfl, h2, h3, h4⟩
        · have HPX := hid (HPS.out h1)
          have HC1 := hid h1
          have b2 : (stepC ej != 0) = true := by simpa using h1
          have HX4 : Hid (Below w1.heap.size w1 (w3.alloc (.cells #[.int .i64 z0, .int .i64 z1, .string z2, .int .i64 z3, .slice ac nc cc, .slice ae ne ce] 42))) := hid (HB13.out.alloc HB13.out.size _)
          obtain ⟨⟨r0, r1⟩, ⟨f0, f1⟩, lw⟩ := HRC.out _ HX4.out
          have HE : Hid (procC es = stepC ej) := hid HPX.out.1
          have HE2 : Hid (procS es = []) := hid HPX.out.2
          generalize stepC ej = sc at *
          clear h1 HPS HZ2 HPX
          go_wp2
          refine bodyPost_ret (v := .agg #[.int .i64 sc, .slice none 0 0]) (by simp [results, Tryz.results5, go_sem, r0, r1]) rfl ⟨⟨_, ret2 HE.out.symm, by rw [HE2.out]; exact SOwn.nil _ _⟩, ((HB1.out.trans (HX4.out.mono HB1.out.size)).setCell (p := ⟨w.heap.size, 0, none⟩) (Nat.le_refl _) _).setCell (p := ⟨w.heap.size, 1, none⟩) (Nat.le_refl _) _⟩
        · have HZ3 := hid (HZ2.out h1)
          have HN2 := hid h2
          have HN3 := hid h3
          have HN4 := hid h4
          obtain ⟨C, E, hF⟩ := HO.out
          have HEF := hid hF
          have HRW := hid (Nst.own_kept hF.row (fun b hb => HB3.out.block b (Nst.own_lt hF.row hb).2))
          have l3 := HB3.out.size
          have lw := HB.out.size
          have hn7 : n7 = tr.length := by
            obtain ⟨a', c', e'⟩ := Nst.own_slice hF.row
            cases e'; rfl
          subst hn7
          clear h1 h2 h3 h4 hF HO
          generalize stepS ej = sj at *
          go_wp2_with (at_builtin; go_must (refine wpList_append_own_at _ rfl _ _ 24 rfl w1.heap.size 42 j0 (.agg #[.int .i64 0, .int .i64 0, .string ⟨#[]⟩, .int .i64 0, .slice none 0 0, .slice none 0 0]) 6 88 Tryz.underlying24 hj hy0 hy1 hy2 rfl (by decide) _ _ _ rfl ((HRW.out.alloc _).alloc _) ⟨w3.heap.size + 1, 0, none⟩ 1 1 [.int .i64 sj.kind, .int .i64 sj.parent, .string sj.name, .int .i64 sj.arg, .slice ac sj.cond.length cc, .slice ae sj.expr.length ce] rfl rfl (So.news #[.int .i64 sj.kind, .int .i64 sj.parent, .string sj.name, .int .i64 sj.arg, .slice ac sj.cond.length cc, .slice ae sj.expr.length ce] _ _ (by simp)) (by simp [Value.oneCell']) (by unfold maxLen; omega) (by omega) (by simp; omega) ?_); intro v9 w9 hown9 hg9 _ hat9; obtain ⟨a9, c9, rfl⟩ := Nst.own_slice hown9)
          have hx4 : Below w3.heap.size w3 ((w3.alloc (.cells #[.int .i64 sj.kind, .int .i64 sj.parent, .string sj.name, .int .i64 sj.arg, .slice ac sj.cond.length cc, .slice ae sj.expr.length ce] 42)).alloc (.cells #[.int .i64 sj.kind, .int .i64 sj.parent, .string sj.name, .int .i64 sj.arg, .slice ac sj.cond.length cc, .slice ae sj.expr.length ce] 42)) := ((Below.refl _ w3).alloc (Nat.le_refl _) _).alloc (by simp) _
          have HO9 : Hid (SOwn w9 w1.heap.size (.slice a9 (tr.length + 1) c9) (tr ++ [sj])) := hid (So.push_at HEF.out lw (fun b _ hb => (HB3.out.trans (hx4.mono HB3.out.size)).block b hb) (by simp; omega) (Nst.own_mono ((HN2.out.alloc _).alloc _) (by simp)) (Nst.own_mono ((HN3.out.alloc _).alloc _) (by simp)) HN4.out hown9 hg9 hat9)
          have HB9 : Hid (Below w1.heap.size w1 w9) := hid (((HB.out.trans (HB3.out.mono lw)).trans (hx4.mono (by omega))).grown hg9 (by simp; omega) (fun b e => (Nst.own_lt HRW.out e).1))
          clear hown9 hg9 hat9 hx4
          go_wp2
          exact ⟨⟨j + 1, by simp, by omega, ⟨_, _, _, rfl⟩, ⟨_, _, rfl, rfl⟩, HZ3, hid (by rw [HTS.out]; exact HO9.out), HB9⟩, by simp [intOf]; omega⟩
      · have q1 : ¬ (j : Int) < (es.length : Int) := by omega
        have hjn : j = es.length := by omega
        have HO1 : Hid (SOwn wr w1.heap.size (.slice a7 n7 c7) (es.map stepS)) := hid (by
          have := HO.out
          rw [hjn, List.take_length] at this
          exact this)
        have HPA := hid (proc_all HF0.out (fun x hx => HZ.out x hx (by omega)))
        have HPF := hid (Pf.specFault w1.heap.size (es.map stepS) _ wr HSMP.out HO1.out.steps)
        clear HO hjn
        generalize htre : es.map stepS = tr at *
        have HTRE := hid htre
        clear htre
        go_wp2_with fail
        refine HPF.out.mono ?_
        rintro e w5 ⟨rfl, hb5⟩
        have HB5 := hid (HB.out.trans (hb5.mono HB.out.size))
        have HO5 := hid (HO1.out.below hb5)
        obtain ⟨⟨r0, r1⟩, ⟨f0, f1⟩, lw⟩ := HRC.out _ HB5.out
        clear hb5 HPF
        by_cases hp : pFault tr = 0
        · have HP0 : Hid (procC es = 0) := hid (HPA.out.trans hp)
          have HPS : Hid (procS es = tr) := hid (by unfold procS; rw [if_pos HP0.out]; exact HTRE.out)
          rw [hp]
          clear hp
          go_wp2
          refine bodyPost_ret (v := .agg #[.int .i64 0, .slice a7 n7 c7]) (by simp [results, Tryz.results5, go_sem, r0, r1]) rfl ⟨⟨_, ret2 HP0.out.symm, ?_⟩, ((HB1.out.trans (HB5.out.mono HB1.out.size)).setCell (p := ⟨w.heap.size, 0, none⟩) (Nat.le_refl _) _).setCell (p := ⟨w.heap.size, 1, none⟩) (Nat.le_refl _) _⟩
          rw [HPS.out]
          exact (HO5.out.keep (fun b h1 _ => by
            rw [Below.heap_setCell _ _ _ _ (by dsimp only; omega), Below.heap_setCell _ _ _ _ (by dsimp only; omega)])).mono (Nat.le_of_lt l1)
        · have HP0 := hid hp
          have b2 : (pFault tr != 0) = true := by simpa using hp
          have HPS : Hid (procS es = []) := hid (by unfold procS; rw [if_neg (by rw [HPA.out]; exact hp)])
          generalize hff : pFault tr = pf at *
          clear hff hp
          go_wp2
          refine bodyPost_ret (v := .agg #[.int .i64 pf, .slice none 0 0]) (by simp [results, Tryz.results5, go_sem, r0, r1]) rfl ⟨⟨_, ret2 HPA.out.symm, by rw [HPS.out]; exact SOwn.nil _ _⟩, ((HB1.out.trans (HB5.out.mono HB1.out.size)).setCell (p := ⟨w.heap.size, 0, none⟩) (Nat.le_refl _) _).setCell (p := ⟨w.heap.size, 1, none⟩) (Nat.le_refl _) _⟩
  · have HPF := hid (proc_fault hf)
    have b1 : (fault es != 0) = true := by simpa using hf
    obtain ⟨⟨r0, r1⟩, ⟨f0, f1⟩, lw⟩ := HRC.out _ (Below.refl _ w1)
    generalize hff : fault es = ff at *
    clear hff hf
    go_wp2
    refine bodyPost_ret (v := .agg #[.int .i64 ff, .slice none 0 0]) (by simp [results, Tryz.results5, go_sem, r0, r1]) rfl ⟨⟨_, ret2 HPF.out.1.symm, by rw [HPF.out.2]; exact SOwn.nil _ _⟩, (HB1.out.setCell (p := ⟨w.heap.size, 0, none⟩) (Nat.le_refl _) _).setCell (p := ⟨w.heap.size, 1, none⟩) (Nat.le_refl _) _⟩
end Po
end Go.Proofs.YtahkpgffoiaeiaaGreatDoor
