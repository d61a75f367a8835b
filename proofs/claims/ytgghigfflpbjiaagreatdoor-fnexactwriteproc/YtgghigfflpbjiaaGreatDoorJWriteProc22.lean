/- Laid together: TrT, TfH. -/
import Derived.Test.YtgghigfflpbjiaaGreatDoorJWriteProc17
import Derived.Test.YtgghigfflpbjiaaGreatDoorJWriteProc41
import Derived.Test.YtgghigfflpbjiaaGreatDoorJWriteProc16
/- TreeFault of the specification. -/
namespace Go.Proofs.YtgghigfflpbjiaaGreatDoor
open Go.RowKit
set_option linter.unusedVariables false
namespace Tr
set_option maxRecDepth 100000 in
set_option maxHeartbeats 4000000 in
theorem specFault1 (B : Nat) (es : List ElemD) (v : Value) (w : World) (hl : es.length ≤ 1048576) (hk : OkE es) (ha : ElemsAt w B v es) :
    Calls Tryz.prog 20 #[v] w fun e w' => e = .returned (.int .i64 (fault es)) ∧ Below w.heap.size w w' := by
  obtain ⟨a, cap, rfl⟩ := ha.slice
  have HA := hid ha
  have HK := hid hk
  clear ha hk
  by_cases z1 : es.length < 1
  · have HV := hid (fault_many (.inl z1))
    have q : (es.length : Int) < 1 := by omega
    go_enter Tryz.func20, Tryz.ntmps20
    go_wp2
    go_ret
    exact ⟨by rw [HV.out]; rfl, Below.refl _ _⟩
  by_cases z2 : 40 < es.length
  · have HV := hid (fault_many (.inr z2))
    have q : ¬ (es.length : Int) < 1 := by omega
    have q' : (40 : Int) < (es.length : Int) := by omega
    go_enter Tryz.func20, Tryz.ntmps20
    go_wp2
    go_ret
    exact ⟨by rw [HV.out]; rfl, Below.refl _ _⟩
  have q : ¬ (es.length : Int) < 1 := by omega
  have q' : ¬ (40 : Int) < (es.length : Int) := by omega
  have HZ := hid (Seen.start z1 z2)
  have hl40 : es.length ≤ 40 := by omega
  clear z1 z2
  go_enter Tryz.func20, Tryz.ntmps20
  go_wp2
  go_loopw [3, 4, 5, 6] (fun x _ _ _ wr => ∃ (i : Nat) (S : List Nat), x = .int .i64 i ∧ Hid (Seen es i S) ∧ i ≤ es.length ∧ Hid (Below w.heap.size w wr)) (fun x _ _ _ _ => es.length - (intOf x).toNat)
  case atStart => exact ⟨0, [], rfl, HZ, Nat.zero_le _, Below.refl _ _⟩
  case round =>
    obtain ⟨i, S, rfl, HS, hil, HB⟩ := hrel
    by_cases hlt : i < es.length
    · have hA := HA.out.below HB.out
      obtain ⟨g, o, va, rfl, hg, c0, c1, c2, hva⟩ := hA.at hlt
      have q1 : (i : Int) < (es.length : Int) := by omega
      have hkk := HK.out es[i] (List.getElem_mem hlt)
      have k1 := hkk.1
      have HKA := hid hkk.2.1
      clear hkk
      have HN := hid (fun w' => spec_nf1 es[i].tag w' k1)
      by_cases hn : nf es[i].tag.data.toList = 0
      · have b1 : (nf es[i].tag.data.toList != 0) = false := by simp [hn]
        by_cases hp : (i = 0 ∧ es[i].parent ≠ -1) ∨ (0 < i ∧ ¬ (0 ≤ es[i].parent ∧ es[i].parent < i))
        · have HV := hid (HS.out.range hlt hn hp)
          obtain ⟨b, e2, rfl⟩ := hva.slice
          rcases hp with ⟨hi0, hp⟩ | ⟨hi0, hp⟩
          · have r1 : ((i : Int) == 0) = true := beq_iff_eq.2 (by omega)
            have r2 : (es[i].parent != -1) = true := bne_iff_ne.2 hp
            clear hA hva hi0 hp hn
            go_wp2_with (go_at_call 40; refine (HN.out _).mono ?_; rintro e w' ⟨rfl, rfl⟩)
            go_ret
            exact ⟨by rw [HV.out]; rfl, HB.out⟩
          · have r1 : ((i : Int) == 0) = false := beq_eq_false_iff_ne.2 (by omega)
            have r2 : (0 : Int) < (i : Int) := by omega
            have HI := hid (fun w' => specIn es[i].parent 0 ((i : Int) - 1) w')
            have r3 : (decide (0 ≤ es[i].parent) && decide (es[i].parent ≤ (i : Int) - 1)) = false := by
              rw [← Bool.not_eq_true]; intro e; apply hp; simp at e; omega
            rw [r3] at HI
            clear hA hva hi0 hp hn r3
            go_wp2_with (first | (go_at_call 40; refine (HN.out _).mono ?_; rintro e w' ⟨rfl, rfl⟩) | (go_at_call 41; refine (HI.out _).mono ?_; rintro e w' ⟨rfl, rfl⟩))
            go_ret
            exact ⟨by rw [HV.out]; rfl, HB.out⟩
        · by_cases hf : 0 < i ∧ onPath es[i].parent S = false
          · have HV := hid (HS.out.form hlt hn hp hf)
            have HL := hid (specLine B es _ i S wr hl40 hlt HS.out.chain HS.out.first hA)
            rw [hf.2] at HL
            obtain ⟨b, e2, rfl⟩ := hva.slice
            have hi0 := hf.1
            have r1 : ((i : Int) == 0) = false := beq_eq_false_iff_ne.2 (by omega)
            have r2 : (0 : Int) < (i : Int) := by omega
            have HI := hid (fun w' => specIn es[i].parent 0 ((i : Int) - 1) w')
            have r3 : (decide (0 ≤ es[i].parent) && decide (es[i].parent ≤ (i : Int) - 1)) = true := by
              have : ¬ ¬ (0 ≤ es[i].parent ∧ es[i].parent < i) := fun e => hp (.inr ⟨hi0, e⟩)
              simp; omega
            rw [r3] at HI
            clear hA hva hi0 hp hn r3 hf
            go_wp2_with (first | (go_at_call 40; refine (HN.out _).mono ?_; rintro e w' ⟨rfl, rfl⟩) | (go_at_call 41; refine (HI.out _).mono ?_; rintro e w' ⟨rfl, rfl⟩) | (go_at_call 42; refine HL.out.mono ?_; rintro e w' ⟨rfl, rfl⟩))
            go_ret
            exact ⟨by rw [HV.out]; rfl, HB.out⟩
          · have hch := next_chain HS.out.chain HS.out.first hlt hp hf
            have hcl : (cutTo es[i].parent S).length ≤ 8 := Nat.le_trans cut_le HS.out.deep
            have HD : Hid (Calls Tryz.prog 43 #[.slice (some ⟨g, o, none⟩) es.length cap, .int .i64 (i : Int)] wr fun e w' => e = .returned (.int .i64 (((cutTo es[i].parent S).length : Int) + 1)) ∧ w' = wr) := hid (by
              have h := specDeep B es _ (i :: cutTo es[i].parent S) wr hl40 hch (by simp only [List.length_cons]; omega) hA
              have e1 : ((i :: cutTo es[i].parent S).length : Int) = ((cutTo es[i].parent S).length : Int) + 1 := by simp
              rw [e1] at h
              exact h)
            clear hch
            have H6 : Hid (8 < (cutTo es[i].parent S).length + 1 ∨ 6 < es[i].attrs.length → fault es = 2) := hid (fun hm => HS.out.many hlt hn hp hf hm)
            have H7 : Hid (¬ (8 < (cutTo es[i].parent S).length + 1 ∨ 6 < es[i].attrs.length) → acode es[i].attrs ≠ 0 → fault es = acode es[i].attrs) := hid (fun hm h => HS.out.attr hlt hn hp hf hm h)
            have H8 : Hid (¬ (8 < (cutTo es[i].parent S).length + 1 ∨ 6 < es[i].attrs.length) → acode es[i].attrs = 0 → Seen es (i + 1) (i :: cutTo es[i].parent S)) := hid (fun hm h => HS.out.next hlt hn hp hf hm h)
            obtain ⟨b, e2, rfl⟩ := hva.slice
            have HVA := hid hva
            have HLx : Hid (0 < i → Calls Tryz.prog 42 #[.slice (some ⟨g, o, none⟩) es.length cap, .int .i64 (i : Int)] wr fun e w' => e = .returned (.bool true) ∧ w' = wr) := hid (fun h0 => by
              have h := specLine B es _ i S wr hl40 hlt HS.out.chain HS.out.first hA
              cases hb : onPath es[i].parent S
              · exact absurd ⟨h0, hb⟩ hf
              · rw [hb] at h; exact h)
            have HIx : Hid (0 < i → ∀ w', Calls Tryz.prog 41 #[.int .i64 es[i].parent, .int .i64 0, .int .i64 ((i : Int) - 1)] w' fun e w1 => e = .returned (.bool true) ∧ w1 = w') := hid (fun h0 w' => by
              have h := specIn es[i].parent 0 ((i : Int) - 1) w'
              have r3 : (decide (0 ≤ es[i].parent) && decide (es[i].parent ≤ (i : Int) - 1)) = true := by
                have : ¬ ¬ (0 ≤ es[i].parent ∧ es[i].parent < i) := fun e => hp (.inr ⟨h0, e⟩)
                simp; omega
              rw [r3] at h
              exact h)
            have hp0 : i = 0 → (es[i].parent != -1) = false := fun h0 => by
              have : ¬ es[i].parent ≠ -1 := fun e => hp (.inl ⟨h0, e⟩)
              simp only [bne_eq_false_iff_eq]; omega
            have HP0 := hid hp0
            clear hp0 hA hva hp hf hn
            generalize (cutTo es[i].parent S).length = dp at *
            rcases Nat.eq_zero_or_pos i with hi0 | hi0
            · have r1 : ((i : Int) == 0) = true := beq_iff_eq.2 (by omega)
              have r2 := HP0.out hi0
              have r3 : ¬ (0 : Int) < (i : Int) := by omega
              clear HLx HIx HP0 hi0
              by_cases m1 : 8 < dp + 1
              · have HV := hid (H6.out (.inl m1))
                have t1 : (8 : Int) < (dp : Int) + 1 := by omega
                go_wp2_with (first | (go_at_call 40; refine (HN.out _).mono ?_; rintro e w' ⟨rfl, rfl⟩) | (go_at_call 43; refine HD.out.mono ?_; rintro e w' ⟨rfl, rfl⟩))
                go_ret
                exact ⟨by rw [HV.out]; rfl, HB.out⟩
              have t1 : ¬ (8 : Int) < (dp : Int) + 1 := by omega
              by_cases m2 : 6 < es[i].attrs.length
              · have HV := hid (H6.out (.inr m2))
                have t2 : (6 : Int) < (es[i].attrs.length : Int) := by omega
                go_wp2_with (first | (go_at_call 40; refine (HN.out _).mono ?_; rintro e w' ⟨rfl, rfl⟩) | (go_at_call 43; refine HD.out.mono ?_; rintro e w' ⟨rfl, rfl⟩))
                go_ret
                exact ⟨by rw [HV.out]; rfl, HB.out⟩
              have t2 : ¬ (6 : Int) < (es[i].attrs.length : Int) := by omega
              have HAT := hid (specAttrs B es[i].attrs _ wr (by omega) HKA.out HVA.out)
              by_cases ha : acode es[i].attrs = 0
              · have HV := hid (H8.out (by omega) ha)
                have t3 : (acode es[i].attrs != 0) = false := by simp [ha]
                rw [ha] at HAT
                go_wp2_with (first | (go_at_call 40; refine (HN.out _).mono ?_; rintro e w' ⟨rfl, rfl⟩) | (go_at_call 43; refine HD.out.mono ?_; rintro e w' ⟨rfl, rfl⟩) | (go_at_call 44; refine HAT.out.mono ?_; rintro e w' ⟨rfl, hb⟩))
                exact ⟨⟨i + 1, _, by simp, HV, by omega, hid (HB.out.trans (hb.mono HB.out.size))⟩, by simp [intOf]; omega⟩
              · have HV := hid (H7.out (by omega) ha)
                have t3 : (acode es[i].attrs != 0) = true := by simpa using ha
                go_wp2_with (first | (go_at_call 40; refine (HN.out _).mono ?_; rintro e w' ⟨rfl, rfl⟩) | (go_at_call 43; refine HD.out.mono ?_; rintro e w' ⟨rfl, rfl⟩) | (go_at_call 44; refine HAT.out.mono ?_; rintro e w' ⟨rfl, hb⟩))
                go_ret
                exact ⟨by rw [HV.out]; rfl, HB.out.trans (hb.mono HB.out.size)⟩
            · have r1 : ((i : Int) == 0) = false := beq_eq_false_iff_ne.2 (by omega)
              have r3 : (0 : Int) < (i : Int) := by omega
              have HI := hid (HIx.out hi0)
              have HL := hid (HLx.out hi0)
              clear HLx HIx HP0
              by_cases m1 : 8 < dp + 1
              · have HV := hid (H6.out (.inl m1))
                have t1 : (8 : Int) < (dp : Int) + 1 := by omega
                go_wp2_with (first | (go_at_call 40; refine (HN.out _).mono ?_; rintro e w' ⟨rfl, rfl⟩) | (go_at_call 43; refine HD.out.mono ?_; rintro e w' ⟨rfl, rfl⟩) | (go_at_call 41; refine (HI.out _).mono ?_; rintro e w' ⟨rfl, rfl⟩) | (go_at_call 42; refine HL.out.mono ?_; rintro e w' ⟨rfl, rfl⟩))
                go_ret
                exact ⟨by rw [HV.out]; rfl, HB.out⟩
              have t1 : ¬ (8 : Int) < (dp : Int) + 1 := by omega
              by_cases m2 : 6 < es[i].attrs.length
              · have HV := hid (H6.out (.inr m2))
                have t2 : (6 : Int) < (es[i].attrs.length : Int) := by omega
                go_wp2_with (first | (go_at_call 40; refine (HN.out _).mono ?_; rintro e w' ⟨rfl, rfl⟩) | (go_at_call 43; refine HD.out.mono ?_; rintro e w' ⟨rfl, rfl⟩) | (go_at_call 41; refine (HI.out _).mono ?_; rintro e w' ⟨rfl, rfl⟩) | (go_at_call 42; refine HL.out.mono ?_; rintro e w' ⟨rfl, rfl⟩))
                go_ret
                exact ⟨by rw [HV.out]; rfl, HB.out⟩
              have t2 : ¬ (6 : Int) < (es[i].attrs.length : Int) := by omega
              have HAT := hid (specAttrs B es[i].attrs _ wr (by omega) HKA.out HVA.out)
              by_cases ha : acode es[i].attrs = 0
              · have HV := hid (H8.out (by omega) ha)
                have t3 : (acode es[i].attrs != 0) = false := by simp [ha]
                rw [ha] at HAT
                go_wp2_with (first | (go_at_call 40; refine (HN.out _).mono ?_; rintro e w' ⟨rfl, rfl⟩) | (go_at_call 43; refine HD.out.mono ?_; rintro e w' ⟨rfl, rfl⟩) | (go_at_call 41; refine (HI.out _).mono ?_; rintro e w' ⟨rfl, rfl⟩) | (go_at_call 42; refine HL.out.mono ?_; rintro e w' ⟨rfl, rfl⟩) | (go_at_call 44; refine HAT.out.mono ?_; rintro e w' ⟨rfl, hb⟩))
                exact ⟨⟨i + 1, _, by simp, HV, by omega, hid (HB.out.trans (hb.mono HB.out.size))⟩, by simp [intOf]; omega⟩
              · have HV := hid (H7.out (by omega) ha)
                have t3 : (acode es[i].attrs != 0) = true := by simpa using ha
                go_wp2_with (first | (go_at_call 40; refine (HN.out _).mono ?_; rintro e w' ⟨rfl, rfl⟩) | (go_at_call 43; refine HD.out.mono ?_; rintro e w' ⟨rfl, rfl⟩) | (go_at_call 41; refine (HI.out _).mono ?_; rintro e w' ⟨rfl, rfl⟩) | (go_at_call 42; refine HL.out.mono ?_; rintro e w' ⟨rfl, rfl⟩) | (go_at_call 44; refine HAT.out.mono ?_; rintro e w' ⟨rfl, hb⟩))
                go_ret
                exact ⟨by rw [HV.out]; rfl, HB.out.trans (hb.mono HB.out.size)⟩
      · have b1 : (nf es[i].tag.data.toList != 0) = true := by simpa using hn
        have HV := hid (HS.out.name hlt hn)
        obtain ⟨b, e2, rfl⟩ := hva.slice
        clear hA hva hn
        go_wp2_with (go_at_call 40; refine (HN.out _).mono ?_; rintro e w' ⟨rfl, rfl⟩)
        go_ret
        exact ⟨by rw [HV.out]; rfl, HB.out⟩
    · have HV := hid (HS.out.done hlt)
      go_wp2
      go_ret
      exact ⟨by rw [HV.out]; rfl, HB.out⟩
end Tr
end Go.Proofs.YtgghigfflpbjiaaGreatDoor
/- The specification's TreeOf. -/
namespace Go.Proofs.YtgghigfflpbjiaaGreatDoor
open Go.RowKit
set_option linter.unusedVariables false
namespace Tf
open Ex (hid inR eFault str str_size textOf)
open Nd (NodeD)
open St (StepD)
open Tr (AttrD ElemD AttrsAt ElemsAt fault)
open Pf
open Nst (own)
set_option maxRecDepth 100000 in
set_option maxHeartbeats 8000000 in
theorem specTreeOf (B : Nat) (ss : List StepD) (v : Value) (w : World) (hsm : St.Small 1048576 ss) (ha : St.At w B v ss) :
    Calls Tryz.prog 6 #[v] w fun e w' => (∃ u, e = .returned (.agg #[.int .i64 (treeC ss), .int .i64 0, u]) ∧ EOwn w' (w.heap.size + 1) u (treeE ss)) ∧ Below w.heap.size w w' := by
  obtain ⟨a, cap, rfl⟩ := ha.slice
  have HB0 : Hid (Below w.heap.size w (w.alloc (.cells #[.int .i64 0, .int .i64 0, .slice none 0 0] 26))) := hid ((Below.refl _ w).alloc (Nat.le_refl _) _)
  have HF := hid (Pf.specFault B ss _ _ hsm (ha.below HB0.out))
  have HA := hid ha
  have HS := hid hsm
  clear ha hsm
  go_enter Tryz.func6, Tryz.ntmps6
  go_wp2_with fail
  refine HF.out.mono ?_
  rintro e w1 ⟨rfl, hb1⟩
  have B1 : Below w.heap.size w w1 := HB0.out.trans (hb1.mono HB0.out.size)
  have hz : (w.alloc (.cells #[.int .i64 0, .int .i64 0, .slice none 0 0] 26)).heap.size = w.heap.size + 1 := by simp
  have l1 : w.heap.size + 1 ≤ w1.heap.size := by have := hb1.size; omega
  have lw1 : w.heap.size < w1.heap.size := by omega
  have u0 := kept_cell hb1 (b := w.heap.size) (o := 0) (v := .int .i64 0) (by omega) (by go_simp)
  have u1 := kept_cell hb1 (b := w.heap.size) (o := 1) (v := .int .i64 0) (by omega) (by go_simp)
  have u2 := kept_cell hb1 (b := w.heap.size) (o := 2) (v := .slice none 0 0) (by omega) (by go_simp)
  have x0 := kept_free hb1 (b := w.heap.size) (o := 0) (by omega) (by go_simp)
  have x1 := kept_free hb1 (b := w.heap.size) (o := 1) (by omega) (by go_simp)
  have x2 := kept_free hb1 (b := w.heap.size) (o := 2) (by omega) (by go_simp)
  have HB1 := hid B1
  clear hz HF hb1 B1
  by_cases hp : pFault ss = 0
  · have HTL := hid (specL5Tree B ss _ w1 hp HS.out (HA.out.below HB1.out))
    have HTC := hid (treeC_f hp)
    have HLO := hid (fun (h : ss.any long = true) => (treeC_f hp).trans ((fault_tree hp).trans (if_pos h)))
    have HSM := hid (tree_smallE hp)
    have HOK := hid (tree_okE hp)
    have b1 : (pFault ss != 0) = false := by simp [hp]
    generalize hpf : pFault ss = pf at *
    clear hpf hp
    go_wp2_with fail
    refine HTL.out.mono ?_
    rintro e w2 ⟨⟨u, b, rfl, hcase⟩, hb2⟩
    have e0 := kept_cell hb2 lw1 u0
    have e1 := kept_cell hb2 lw1 u1
    have e2 := kept_cell hb2 lw1 u2
    have f0 := kept_free hb2 lw1 x0
    have f1 := kept_free hb2 lw1 x1
    have f2 := kept_free hb2 lw1 x2
    have lw2 : w.heap.size < w2.heap.size := Nat.lt_of_lt_of_le lw1 hb2.size
    have HB2 := hid (HB1.out.trans (hb2.mono HB1.out.size))
    clear HTL hb2
    rcases hcase with ⟨rfl, hany⟩ | ⟨rfl, hany, hown⟩
    · have HT2 := hid (HLO.out hany)
      have HTE : Hid (treeE ss = []) := hid (by unfold treeE; rw [if_neg (by rw [HT2.out]; omega)])
      clear hany
      go_wp2
      refine bodyPost_ret (v := .agg #[.int .i64 2, .int .i64 0, .slice none 0 0]) (by simp [results, Tryz.results6, go_sem, e0, e1, e2]) rfl ⟨⟨_, ret3 HT2.out.symm, ?_⟩, setB (setB (setB HB2.out (Nat.le_refl _) _) (Nat.le_refl _) _) (Nat.le_refl _) _⟩
      rw [HTE.out]
      exact EOwn.nil _ _
    · obtain ⟨au, cu, rfl⟩ := hown.slice
      have HOW := hid hown
      have HFA := hid (Tr.specFault1 w1.heap.size (treeL ss) _ w2 (by have := HSM.out.1; omega) HOK.out hown.elems)
      clear hown hany
      go_wp2_with fail
      refine HFA.out.mono ?_
      rintro e w5 ⟨rfl, hb5⟩
      have r0 := kept_cell hb5 lw2 e0
      have r1 := kept_cell hb5 lw2 e1
      have r2 := kept_cell hb5 lw2 e2
      have t0 := kept_free hb5 lw2 f0
      have t1 := kept_free hb5 lw2 f1
      have t2 := kept_free hb5 lw2 f2
      have HB5 := hid (HB2.out.trans (hb5.mono HB2.out.size))
      have HO5 := hid ((HOW.out.below hb5).mono l1)
      clear HFA hb5 e0 e1 e2 f0 f1 f2 HOW
      by_cases hf : fault (treeL ss) = 0
      · have HTE : Hid (treeE ss = treeL ss) := hid (by unfold treeE; rw [if_pos (HTC.out.trans hf)])
        have HT0 : Hid (treeC ss = 0) := hid (HTC.out.trans hf)
        have b2 : (fault (treeL ss) != 0) = false := by simp [hf]
        generalize hff : fault (treeL ss) = ff at *
        clear hff hf
        go_wp2
        refine bodyPost_ret (v := .agg #[.int .i64 0, .int .i64 0, .slice au (treeL ss).length cu]) (by simp [results, Tryz.results6, go_sem, r0, r1, r2]) rfl ⟨⟨_, ret3 HT0.out.symm, ?_⟩, setB (setB (setB HB5.out (Nat.le_refl _) _) (Nat.le_refl _) _) (Nat.le_refl _) _⟩
        rw [HTE.out]
        exact HO5.out.keep (fun b h1 _ => heap_set3 (by omega))
      · have HTE : Hid (treeE ss = []) := hid (by unfold treeE; rw [if_neg (by rw [HTC.out]; exact hf)])
        have b2 : (fault (treeL ss) != 0) = true := by simpa using hf
        generalize hff : fault (treeL ss) = ff at *
        clear hff hf
        go_wp2
        refine bodyPost_ret (v := .agg #[.int .i64 ff, .int .i64 0, .slice none 0 0]) (by simp [results, Tryz.results6, go_sem, r0, r1, r2]) rfl ⟨⟨_, ret3 HTC.out.symm, ?_⟩, setB (setB (setB HB5.out (Nat.le_refl _) _) (Nat.le_refl _) _) (Nat.le_refl _) _⟩
        rw [HTE.out]
        exact EOwn.nil _ _
  · have HTC := hid (treeC_p hp)
    have HTE : Hid (treeE ss = []) := hid (by unfold treeE; rw [if_neg (by rw [HTC.out]; exact hp)])
    have b1 : (pFault ss != 0) = true := by simpa using hp
    generalize hpf : pFault ss = pf at *
    clear hpf hp
    go_wp2
    refine bodyPost_ret (v := .agg #[.int .i64 pf, .int .i64 0, .slice none 0 0]) (by simp [results, Tryz.results6, go_sem, u0, u1, u2]) rfl ⟨⟨_, ret3 HTC.out.symm, ?_⟩, setB (setB (setB HB1.out (Nat.le_refl _) _) (Nat.le_refl _) _) (Nat.le_refl _) _⟩
    rw [HTE.out]
    exact EOwn.nil _ _
end Tf
end Go.Proofs.YtgghigfflpbjiaaGreatDoor
