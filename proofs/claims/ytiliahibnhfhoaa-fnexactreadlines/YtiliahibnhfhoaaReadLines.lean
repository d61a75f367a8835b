/- Whatever bytes are handed in, ReadLines answers as the specification's ReadLines does, the bytes read afterwards as before, and what it answers is its own. No condition. -/
import Derived.Test.YtiliahibnhfhoaaRows
import Derived.ShutString
import Derived.ChangeOld
import Derived.ProofKit
import Derived.OpenShut
import Derived.Test.YtiliahibnhfhoaaJnO
import Derived.Test.YtiliahibnhfhoaaJnS
namespace Go.Proofs.Ytiliahibnhfhoaa
open Go.ChangeShapes Go.WideShapes Go.ChangeAt Go.RowKit
open Go.ChangeMaps (open_string shut_string)
set_option linter.unusedVariables false
namespace RlL
open Jn
theorem lines_len (d : List UInt8) (h : d.length ≤ 1048576) : (linesL d).length ≤ 1048576 := by
  unfold linesL
  split
  · simp
  · have := readL_count d; omega
set_option maxRecDepth 100000 in
set_option maxHeartbeats 8000000 in
theorem walk (a : Option Addr) (cap : Nat) (d : List UInt8) (w : World) (hl : d.length ≤ maxLen) (ha : At w w.heap.size (.slice a d.length cap) d) :
    Calls Try.prog 5 #[.slice a d.length cap] w fun e w' => e = .returned (.bool true) ∧ Below w.heap.size w w' := by
  have HA := hid ha
  clear ha
  unfold maxLen at hl
  by_cases h : 1048576 < d.length
  · have q1 : (1048576 : Int) < (d.length : Int) := by omega
    go_enter Try.func5, Try.ntmps5
    go_wp2
    go_ret
    exact ⟨rfl, Below.refl _ _⟩
  · have q1 : ¬ (1048576 : Int) < (d.length : Int) := by omega
    have hd : d.length ≤ 1048576 := by omega
    have hll := lines_len d hd
    have HTO := hid (fun w' (hb : Below w.heap.size w w') => toS w.heap.size d (.slice a d.length cap) w' hd hb.size (HA.out.below hb (Nat.le_refl _)))
    have HSP := hid (fun B v w' hB ha => specRead B d v w' hd hB ha)
    have HIM := hid (fun B v w' hB ha => implRead B d v w' hd hB ha)
    unfold QPost at HSP HIM
    generalize linesC d = c at *
    generalize linesB d = b at *
    generalize linesL d = ls at *
    have HM := hid (fun B v w' (h : Jn.Os w' B v ls) => markL c b B v ls w' hll h)
    have HH := hid (fun B v w' (h : Jn.Os w' B v (marksT 1 ls.length)) => heldL c b B v ls.length w' hll h)
    have HE := hid (fun B1 B2 v1 v2 w' h1 h2 => eqL c b B1 B2 v1 v2 ls w' hll h1 h2)
    have HEB := hid (fun B v1 v2 w' h1 h2 hB => eqS B v1 v2 d w' hd h1 h2 hB)
    have HMB := hid (fun B v w' h => markS B v d 1 w' hd (by omega) h)
    change Jn.Hid (∀ (B : Nat) (v : Value) (w' : World) (h : Ob w' B v d), Calls Try.prog 25 #[v, .int .i64 1] w' fun e w'' => e = .returned (.int .i64 (1 + (d.length : Int))) ∧ Ob w'' B v (marksF 1 d.length) ∧ w'.grownBy w'' v.ownBlock) at HMB
    have q0 : ¬ (1 + (ls.length : Int)) < 0 := by omega
    have q2 : (1 + (ls.length : Int) != 1 + (ls.length : Int)) = false := by simp
    have q3 : ¬ (1 + (d.length : Int)) < 0 := by omega
    clear hl h HA
    go_enter Try.func5, Try.ntmps5
    go_wp2_with fail
    refine (HTO.out _ (Below.refl _ _)).mono ?_
    rintro e wa ⟨a9, k9, rfl, ho9, hb9⟩
    go_wp2_with fail
    refine (HSP.out _ _ _ (Nat.le_refl _) ho9.at).mono ?_
    rintro e w1 ⟨a0, k0, rfl, ho0, hb1⟩
    have B1 := hb9.trans (hb1.mono hb9.size)
    have hs9 := hb9.size
    have hs1 := hb1.size
    have R0 : Jn.Hid (∀ x, (Value.slice a0 ls.length k0).ownBlock = some x → w.heap.size ≤ x ∧ x < w1.heap.size) := hid (fun x hx => by have := ho0.lt x hx; omega)
    go_wp2_with fail
    refine (HTO.out _ (B1.alloc B1.size _)).mono ?_
    rintro e w2 ⟨a2, k2, rfl, ho2, hb2⟩
    simp only [World.size_alloc] at hb2 ho2
    have hs2 := hb2.size
    simp only [World.size_alloc] at hs2
    have R2 : Jn.Hid (∀ x, (Value.slice a2 d.length k2).ownBlock = some x → w1.heap.size + 1 ≤ x ∧ x < w2.heap.size) := hid (fun x hx => by have := ho2.lt x hx; omega)
    go_wp2_with fail
    refine (HIM.out _ _ _ (Nat.le_refl _) ho2.at).mono ?_
    rintro e w3 ⟨a1, k1, rfl, ho1, hb3⟩
    have hs3 := hb3.size
    have R1 : Jn.Hid (∀ x, (Value.slice a1 ls.length k1).ownBlock = some x → w2.heap.size ≤ x ∧ x < w3.heap.size) := hid (fun x hx => by have := ho1.lt x hx; omega)
    have hx1 : Below w1.heap.size w1 w3 := ((Below.refl w1.heap.size w1).alloc (Nat.le_refl _) _).trans ((hb2.mono (by omega)).trans (hb3.mono (by omega)))
    have hA3 : Below w3.heap.size w3 (w3.alloc (.cells #[.int .i64 c, .bool b, .slice a1 ls.length k1] 32)) := (Below.refl w3.heap.size w3).alloc (Nat.le_refl _) _
    have I6 : Jn.Hid (Inv w (w3.alloc (.cells #[.int .i64 c, .bool b, .slice a1 ls.length k1] 32)) 32 w1.heap.size w3.heap.size #[.int .i64 c, .bool b, .slice a0 ls.length k0] #[.int .i64 c, .bool b, .slice a1 ls.length k1] (P3 (.slice a0 ls.length k0) ls (.slice a1 ls.length k1) ls (.slice a2 d.length k2) d)) := hid ⟨
      (B1.trans (hx1.mono B1.size)).alloc (by omega) _,
      (Below.heap_alloc _ _ _ (by omega)).trans ((hb3.block _ (by omega)).trans ((hb2.block _ (by omega)).trans (heap_alloc_new w1 _))), heap_alloc_new w3 _,
      ⟨os_mono ((ho0.below hx1 (Nat.le_refl _)).below hA3 (Nat.le_refl _)) (Nat.zero_le _), os_mono (ho1.below hA3 (Nat.le_refl _)) (Nat.zero_le _), ob_mono ((ho2.below hb3 (Nat.le_refl _)).below hA3 (Nat.le_refl _)) (Nat.zero_le _)⟩, P3.kp⟩
    clear hb9 hb1 hb2 hb3 ho9 ho0 ho1 ho2 hx1 hA3 B1
    have p00 := blk_cell I6.out.b0 (o := 0) (v := .int .i64 c) rfl
    have p01 := blk_cell I6.out.b0 (o := 1) (v := .bool b) rfl
    have p02 := blk_cell I6.out.b0 (o := 2) (v := .slice a0 ls.length k0) rfl
    have p10 := blk_cell I6.out.b1 (o := 0) (v := .int .i64 c) rfl
    have p11 := blk_cell I6.out.b1 (o := 1) (v := .bool b) rfl
    have p12 := blk_cell I6.out.b1 (o := 2) (v := .slice a1 ls.length k1) rfl
    go_wp2_with fail
    refine (HE.out _ _ _ _ _ I6.out.p.2.1 I6.out.p.1).mono ?_
    rintro e w4 ⟨rfl, hbX⟩
    have I7 := hid (I6.out.below hbX)
    clear p00 p01 p02 p10 p11 p12
    clear I6 hbX
    go_wp2_with fail
    refine (HTO.out _ I7.out.st).mono ?_
    rintro e w5 ⟨a4, k4, rfl, ho4, hbX⟩
    have I8 := hid (I7.out.below hbX)
    clear I7 hbX
    go_wp2_with fail
    refine (HEB.out _ _ _ _ I8.out.p.2.2.at ho4.at (Nat.le_refl _)).mono ?_
    rintro e w6 ⟨rfl, hbX⟩
    have I9 := hid (I8.out.below hbX)
    clear I8 hbX ho4
    go_wp2_with fail
    refine (HMB.out _ _ _ I9.out.p.2.2).mono ?_
    rintro e w7 ⟨rfl, hoM, hgM⟩
    have I10 : Jn.Hid (Inv w w7 32 w1.heap.size w3.heap.size #[.int .i64 c, .bool b, .slice a0 ls.length k0] #[.int .i64 c, .bool b, .slice a1 ls.length k1] (P3 (.slice a0 ls.length k0) ls (.slice a1 ls.length k1) ls (.slice a2 d.length k2) (marksF 1 d.length))) := hid (I9.out.turn hgM (fun x hx => by have := R2.out x hx; omega)
      ⟨I9.out.p.1.kept hgM (fun x hx e => by have := R0.out x hx; have := R2.out x e; omega), I9.out.p.2.1.kept hgM (fun x hx e => by have := R1.out x hx; have := R2.out x e; omega), by rw [← marksF_len 1 d.length] at hoM; rw [marksF_len] at hoM; exact hoM⟩ P3.kp)
    clear I9 hoM hgM
    have p00 := blk_cell I10.out.b0 (o := 0) (v := .int .i64 c) rfl
    have p01 := blk_cell I10.out.b0 (o := 1) (v := .bool b) rfl
    have p02 := blk_cell I10.out.b0 (o := 2) (v := .slice a0 ls.length k0) rfl
    have p10 := blk_cell I10.out.b1 (o := 0) (v := .int .i64 c) rfl
    have p11 := blk_cell I10.out.b1 (o := 1) (v := .bool b) rfl
    have p12 := blk_cell I10.out.b1 (o := 2) (v := .slice a1 ls.length k1) rfl
    go_wp2_with fail
    refine (HE.out _ _ _ _ _ I10.out.p.2.1 I10.out.p.1).mono ?_
    rintro e w8 ⟨rfl, hbX⟩
    have I11 := hid (I10.out.below hbX)
    clear p00 p01 p02 p10 p11 p12
    clear I10 hbX
    have p00 := blk_cell I11.out.b0 (o := 0) (v := .int .i64 c) rfl
    have p01 := blk_cell I11.out.b0 (o := 1) (v := .bool b) rfl
    have p02 := blk_cell I11.out.b0 (o := 2) (v := .slice a0 ls.length k0) rfl
    have p10 := blk_cell I11.out.b1 (o := 0) (v := .int .i64 c) rfl
    have p11 := blk_cell I11.out.b1 (o := 1) (v := .bool b) rfl
    have p12 := blk_cell I11.out.b1 (o := 2) (v := .slice a1 ls.length k1) rfl
    go_wp2_with fail
    refine (HM.out _ _ _ I11.out.p.2.1).mono ?_
    rintro e w9 ⟨rfl, hoM, hgM⟩
    have I12 : Jn.Hid (Inv w w9 32 w1.heap.size w3.heap.size #[.int .i64 c, .bool b, .slice a0 ls.length k0] #[.int .i64 c, .bool b, .slice a1 ls.length k1] (P3 (.slice a0 ls.length k0) ls (.slice a1 ls.length k1) (marksT 1 ls.length) (.slice a2 d.length k2) (marksF 1 d.length))) := hid (I11.out.turn hgM (fun x hx => by have := R1.out x hx; omega)
      ⟨I11.out.p.1.kept hgM (fun x hx e => by have := R0.out x hx; have := R1.out x e; omega), hoM, I11.out.p.2.2.kept hgM (fun x hx e => by have := R2.out x hx; have := R1.out x e; omega)⟩ P3.kp)
    clear p00 p01 p02 p10 p11 p12
    clear I11 hoM hgM
    have p00 := blk_cell I12.out.b0 (o := 0) (v := .int .i64 c) rfl
    have p01 := blk_cell I12.out.b0 (o := 1) (v := .bool b) rfl
    have p02 := blk_cell I12.out.b0 (o := 2) (v := .slice a0 ls.length k0) rfl
    have p10 := blk_cell I12.out.b1 (o := 0) (v := .int .i64 c) rfl
    have p11 := blk_cell I12.out.b1 (o := 1) (v := .bool b) rfl
    have p12 := blk_cell I12.out.b1 (o := 2) (v := .slice a1 ls.length k1) rfl
    go_wp2_with fail
    refine (HH.out _ _ _ I12.out.p.2.1).mono ?_
    rintro e w10 ⟨rfl, hbX⟩
    have I13 := hid (I12.out.below hbX)
    clear p00 p01 p02 p10 p11 p12
    clear I12 hbX
    go_wp2_with fail
    refine (HTO.out _ I13.out.st).mono ?_
    rintro e w11 ⟨a5, k5, rfl, ho5, hbX⟩
    have I14 := hid (I13.out.below hbX)
    clear I13 hbX
    go_wp2_with fail
    refine (HIM.out _ _ _ (Nat.le_refl _) ho5.at).mono ?_
    rintro e w12 ⟨a6, k6, rfl, ho6, hbX⟩
    have hA : Below w12.heap.size w12 (w12.alloc (.cells #[.int .i64 c, .bool b, .slice a6 ls.length k6] 32)) := (Below.refl w12.heap.size w12).alloc (Nat.le_refl _) _
    have I15 := hid ((I14.out.below hbX).below hA)
    have O6 := hid (ho6.below hA (Nat.le_refl _))
    clear I14 hbX hA ho5 ho6
    have p00 := blk_cell I15.out.b0 (o := 0) (v := .int .i64 c) rfl
    have p01 := blk_cell I15.out.b0 (o := 1) (v := .bool b) rfl
    have p02 := blk_cell I15.out.b0 (o := 2) (v := .slice a0 ls.length k0) rfl
    have p10 := blk_cell I15.out.b1 (o := 0) (v := .int .i64 c) rfl
    have p11 := blk_cell I15.out.b1 (o := 1) (v := .bool b) rfl
    have p12 := blk_cell I15.out.b1 (o := 2) (v := .slice a1 ls.length k1) rfl
    go_wp2_with fail
    refine (HE.out _ _ _ _ _ O6.out I15.out.p.1).mono ?_
    rintro e w13 ⟨rfl, hbX⟩
    have I16 := hid (I15.out.below hbX)
    clear p00 p01 p02 p10 p11 p12
    clear I15 hbX O6
    have p00 := blk_cell I16.out.b0 (o := 0) (v := .int .i64 c) rfl
    have p01 := blk_cell I16.out.b0 (o := 1) (v := .bool b) rfl
    have p02 := blk_cell I16.out.b0 (o := 2) (v := .slice a0 ls.length k0) rfl
    have p10 := blk_cell I16.out.b1 (o := 0) (v := .int .i64 c) rfl
    have p11 := blk_cell I16.out.b1 (o := 1) (v := .bool b) rfl
    have p12 := blk_cell I16.out.b1 (o := 2) (v := .slice a1 ls.length k1) rfl
    go_wp2_with fail
    refine (HH.out _ _ _ I16.out.p.2.1).mono ?_
    rintro e w14 ⟨rfl, hbX⟩
    have I17 := hid (I16.out.below hbX)
    clear I16 hbX
    go_wp2
    go_ret
    exact ⟨rfl, I17.out.st⟩
theorem walk' (a : Option Addr) (len cap : Nat) (d : List UInt8) (w : World) (hl : d.length ≤ maxLen) (ha : At w w.heap.size (.slice a len cap) d) :
    Calls Try.prog 5 #[.slice a len cap] w fun e w' => e = .returned (.bool true) ∧ Below w.heap.size w w' := by
  obtain ⟨hq, _⟩ := ha.len
  subst hq
  exact walk a cap d w hl ha
theorem own : ownKnob Try.prog.godebug = none := by kernel_rfl
theorem laidOut : laidOutB Try.prog = true := by kernel_rfl
set_option maxRecDepth 100000 in
theorem lifted (os : Os) (started : os.Started) (H : Type) (enc : TypeId × Value → H) :
    ReturnsInHanded {} Try.checked os 5 .any (Rows.fnExactReadLinesSpec.pre6 enc Try.prog Try.f5 Rows.fnExactReadLinesRow.domain false) (Rows.fnExactReadLinesSpec.post enc Try.prog Try.f5 false true false false) := by
  refine returnsInHanded_of_change (C := Try.checked) own started (by kernel_rfl) Try.func5
    (ChangeSpec.witness6 (enc := enc) (C := Try.checked) false ⟨#[], #[.slice none 0 0], []⟩ 8 (by kernel_rfl) (by kernel_rfl) (by kernel_rfl) (by kernel_rfl)) ?_
  intro W base args ds gs before hval0 hW hcnd _
  have hval : ∀ (j : Nat) t v, Try.f5.params[j]? = some t → args[j]? = some v → Value.okWide Try.prog W .any base t v := hval0
  have hW' := hW
  obtain ⟨p, q, hA0, hV, rfl, hfz, hnd⟩ := hW
  have hA : DataW.TrodAll enc Try.prog W 0 (fun _ => true) true Try.f5.params.toList args.toList ds p := hA0
  rw [Try.params5] at hA hval
  obtain ⟨v0, vs0, d0, ds0, p0, q0, hargs, rfl, rfl, h0, r0⟩ := trodAll_cons hA
  obtain ⟨rfl, rfl, rfl⟩ := trodAll_nil r0
  obtain rfl : args = #[v0] := by cases args; simp_all
  obtain ⟨rfl, rfl⟩ := trodVars_none hV
  obtain ⟨a0, len0, cap0, rfl⟩ := okWide_slice Try.underlying24 (hval 0 24 v0 rfl rfl)
  have k0 := h0
  have lt0 : ∀ x ∈ p0, x.block < W.heap.size := by obtain ⟨m, hm⟩ := k0; exact DataW.trod_lt m _ _ _ hm
  obtain ⟨l0, ga0, gc0⟩ : ∃ es, Jn.At W W.heap.size (.slice a0 len0 cap0) es ∧ es.length ≤ maxLen := by
    obtain ⟨fuel, hf⟩ := h0
    exact Jn.open_bytes (by simpa [Value.cells] using hf)
  clear hA0 hval0
  refine (walk' a0 len0 cap0 l0 W gc0 ga0).mono fun e W' ⟨he, bel⟩ => ?_
  subst he
  exact ⟨_, rfl, _, _, _, [], _, [], hW', trodAll_mk1 (shut_bool Try.underlying4 _), (trodAll_cons_mk (Below.trod laidOut (by kernel_rfl) (of_decide_eq_true (by kernel_rfl)) k0 bel lt0) trodAll_mk0), rfl, bel.frame _, fun h => by cases h⟩
theorem over : Rows.fnExactReadLinesRow.holds Try.pinned (OpenSpec.ofChange Rows.fnExactReadLinesSpec) :=
  OpenClaim.holds_of_wide 5 Try.f5 rfl rfl rfl rfl rfl rfl rfl ⟨rfl, rfl, rfl, rfl, rfl⟩ rfl rfl rfl rfl rfl (by kernel_rfl) Try.func5 (by kernel_rfl)
    (of_decide_eq_true (by kernel_rfl)) (by unfold Func.isWrapper; first | (rw [if_pos (by decide +kernel)]; kernel_rfl) | (rw [if_neg (by decide +kernel)]; exact ⟨rfl, rfl⟩))
    (fun os started H enc _ => lifted os started H enc)
end RlL
theorem fnExactReadLines_holds : Rows.FnExactReadLinesSaid := RlL.over
#print axioms fnExactReadLines_holds
end Go.Proofs.Ytiliahibnhfhoaa
