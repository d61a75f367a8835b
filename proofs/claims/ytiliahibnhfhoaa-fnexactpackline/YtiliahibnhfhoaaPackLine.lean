/- Whatever text is handed in, PackLine answers as the specification's PackLine does, and what it answers is its own. No condition. -/
import Derived.Test.YtiliahibnhfhoaaRows
import Derived.ShutString
import Derived.ChangeOld
import Derived.ProofKit
import Derived.OpenShut
import Derived.Test.YtiliahibnhfhoaaJnG
namespace Go.Proofs.Ytiliahibnhfhoaa
open Go.ChangeShapes Go.WideShapes Go.ChangeAt Go.RowKit
open Go.ChangeMaps (open_string shut_string)
set_option linter.unusedVariables false
namespace PlL
open Jn
set_option maxRecDepth 100000 in
set_option maxHeartbeats 4000000 in
theorem walk (s : ByteArray) (w : World) (hs : s.size ≤ maxLen) :
    Calls Try.prog 4 #[.string s] w fun e w' => e = .returned (.bool true) ∧ Below w.heap.size w w' := by
  by_cases h : (1048576 : Int) < (s.size : Int)
  · go_enter Try.func4, Try.ntmps4
    go_wp2
    go_ret
    exact ⟨rfl, Below.refl _ _⟩
  · have hl : s.data.toList.length ≤ 1048576 := by
      have : s.data.toList.length = s.size := rfl
      omega
    have HS := hid (specPackLine s.data.toList w hl)
    have HI := hid (fun w' => implPackLine s.data.toList w' hl)
    have htl := packR_len s.data.toList
    rw [str_list] at HS
    simp only [str_list] at HI
    generalize faultC s.data.toList = f at *
    generalize packR s.data.toList = t at *
    clear hl
    have HM := hid (fun B v w' (h : Ob w' B v t) => markR f B v t w' (by omega) h)
    have HH := hid (fun v w' (h : At w' w'.heap.size v (marksF 1 t.length)) => heldR f v t.length w' (by omega) h)
    have HE := hid (fun v1 v2 w' h1 h2 => eqR f v1 v2 t w' (by omega) h1 h2)
    have q0 : ¬ (1 + (t.length : Int)) < 0 := by omega
    have q2 : (1 + (t.length : Int) != 1 + (t.length : Int)) = false := by simp
    go_enter Try.func4, Try.ntmps4
    go_wp2_with fail
    refine HS.out.mono ?_
    rintro e w1 ⟨a0, k0, rfl, ho0, hb1⟩
    go_wp2_with fail
    refine (HI.out _).mono ?_
    rintro e w2 ⟨a1, k1, rfl, ho1, hb2⟩
    simp only [World.size_alloc] at hb2 ho1
    have hn1 := hb2.size
    simp only [World.size_alloc] at hn1
    have hb1s := hb1.size
    have hbk := ho1.lt
    have I2 : Jn.Hid (Inv w (w2.alloc (.cells #[.int .i64 f, .slice a1 t.length k1] 26)) 26 w1.heap.size w2.heap.size #[.int .i64 f, .slice a0 t.length k0] #[.int .i64 f, .slice a1 t.length k1] (P2 w1.heap.size (w1.heap.size + 1) (.slice a0 t.length k0) t (.slice a1 t.length k1) t)) := hid ⟨
      (hb1.trans ((((Below.refl w1.heap.size w1).alloc (Nat.le_refl _) _).trans (hb2.mono (by omega))).mono hb1s)).alloc (by omega) _,
      (Below.heap_alloc _ _ _ (by omega)).trans ((hb2.block _ (by omega)).trans (heap_alloc_new w1 _)), heap_alloc_new w2 _,
      ⟨(ho0.at.below (((Below.refl w1.heap.size w1).alloc (Nat.le_refl _) _).trans (hb2.mono (by omega))) (Nat.le_refl _)).below ((Below.refl w2.heap.size w2).alloc (Nat.le_refl _) _) (by omega), by simp; omega, ho1.below ((Below.refl w2.heap.size w2).alloc (Nat.le_refl _) _) (Nat.le_refl _)⟩, P2.kp⟩
    clear HS hb1 hb2 ho0 ho1
    have p00 := blk_cell I2.out.b0 (o := 0) (v := .int .i64 f) rfl
    have p01 := blk_cell I2.out.b0 (o := 1) (v := .slice a0 t.length k0) rfl
    have p10 := blk_cell I2.out.b1 (o := 0) (v := .int .i64 f) rfl
    have p11 := blk_cell I2.out.b1 (o := 1) (v := .slice a1 t.length k1) rfl
    go_wp2_with fail
    refine (HE.out _ _ _ I2.out.p.2.2.at (I2.out.p.1.mono I2.out.p.2.1)).mono ?_
    rintro e w3 ⟨rfl, hb3⟩
    have I3 := hid (I2.out.below hb3)
    clear p00 p01 p10 p11
    clear I2 hb3
    have p00 := blk_cell I3.out.b0 (o := 0) (v := .int .i64 f) rfl
    have p01 := blk_cell I3.out.b0 (o := 1) (v := .slice a0 t.length k0) rfl
    have p10 := blk_cell I3.out.b1 (o := 0) (v := .int .i64 f) rfl
    have p11 := blk_cell I3.out.b1 (o := 1) (v := .slice a1 t.length k1) rfl
    go_wp2_with fail
    refine (HM.out _ _ _ I3.out.p.2.2).mono ?_
    rintro e w4 ⟨rfl, ho4, hg4⟩
    have I4 := hid (I3.out.mark hg4 ho4 hbk (by omega) (by omega) (by omega))
    clear p00 p01 p10 p11
    clear I3 ho4 hg4 hbk
    have p00 := blk_cell I4.out.b0 (o := 0) (v := .int .i64 f) rfl
    have p01 := blk_cell I4.out.b0 (o := 1) (v := .slice a0 t.length k0) rfl
    have p10 := blk_cell I4.out.b1 (o := 0) (v := .int .i64 f) rfl
    have p11 := blk_cell I4.out.b1 (o := 1) (v := .slice a1 t.length k1) rfl
    go_wp2_with fail
    refine (HH.out _ _ I4.out.p.2.2.at).mono ?_
    rintro e w5 ⟨rfl, hb5⟩
    have I5 := hid (I4.out.below hb5)
    clear p00 p01 p10 p11
    clear I4 hb5
    go_wp2_with fail
    refine (HI.out _).mono ?_
    rintro e w6 ⟨a2, k2, rfl, ho6, hb6⟩
    have I6 := hid ((I5.out.below hb6).below ((Below.refl w6.heap.size w6).alloc (o := .cells #[.int .i64 f, .slice a2 t.length k2] 26) (Nat.le_refl _)))
    have A6 := hid ((ho6.at.mono (Nat.le_refl _)).below ((Below.refl w6.heap.size w6).alloc (o := .cells #[.int .i64 f, .slice a2 t.length k2] 26) (Nat.le_refl _)) (Nat.le_refl _))
    clear I5 ho6 hb6
    have p00 := blk_cell I6.out.b0 (o := 0) (v := .int .i64 f) rfl
    have p01 := blk_cell I6.out.b0 (o := 1) (v := .slice a0 t.length k0) rfl
    have p10 := blk_cell I6.out.b1 (o := 0) (v := .int .i64 f) rfl
    have p11 := blk_cell I6.out.b1 (o := 1) (v := .slice a1 t.length k1) rfl
    go_wp2_with fail
    refine (HE.out _ _ _ (A6.out.mono (by simp)) (I6.out.p.1.mono I6.out.p.2.1)).mono ?_
    rintro e w7 ⟨rfl, hb7⟩
    have I7 := hid (I6.out.below hb7)
    clear p00 p01 p10 p11
    clear I6 A6 hb7
    have p00 := blk_cell I7.out.b0 (o := 0) (v := .int .i64 f) rfl
    have p01 := blk_cell I7.out.b0 (o := 1) (v := .slice a0 t.length k0) rfl
    have p10 := blk_cell I7.out.b1 (o := 0) (v := .int .i64 f) rfl
    have p11 := blk_cell I7.out.b1 (o := 1) (v := .slice a1 t.length k1) rfl
    go_wp2_with fail
    refine (HH.out _ _ I7.out.p.2.2.at).mono ?_
    rintro e w8 ⟨rfl, hb8⟩
    have I8 := hid (I7.out.below hb8)
    clear I7 hb8
    go_wp2
    go_ret
    exact ⟨rfl, I8.out.st⟩
theorem own : ownKnob Try.prog.godebug = none := by kernel_rfl
theorem laidOut : laidOutB Try.prog = true := by kernel_rfl
set_option maxRecDepth 100000 in
theorem lifted (os : Os) (started : os.Started) (H : Type) (enc : TypeId × Value → H) :
    ReturnsInHanded {} Try.checked os 4 .any (Rows.fnExactPackLineSpec.pre6 enc Try.prog Try.f4 Rows.fnExactPackLineRow.domain false) (Rows.fnExactPackLineSpec.post enc Try.prog Try.f4 false true false false) := by
  refine returnsInHanded_of_change (C := Try.checked) own started (by kernel_rfl) Try.func4
    (ChangeSpec.witness6 (enc := enc) (C := Try.checked) false ⟨#[], #[.string ByteArray.empty], []⟩ 8 (by kernel_rfl) (by kernel_rfl) (by kernel_rfl) (by kernel_rfl)) ?_
  intro W base args ds gs before hval0 hW hcnd _
  have hval : ∀ (j : Nat) t v, Try.f4.params[j]? = some t → args[j]? = some v → Value.okWide Try.prog W .any base t v := hval0
  have hW' := hW
  obtain ⟨p, q, hA0, hV, rfl, hfz, hnd⟩ := hW
  have hA : DataW.TrodAll enc Try.prog W 0 (fun _ => true) true Try.f4.params.toList args.toList ds p := hA0
  rw [Try.params4] at hA hval
  obtain ⟨v0, vs0, d0, ds0, p0, q0, hargs, rfl, rfl, h0, r0⟩ := trodAll_cons hA
  obtain ⟨rfl, rfl, rfl⟩ := trodAll_nil r0
  obtain rfl : args = #[v0] := by cases args; simp_all
  obtain ⟨rfl, rfl⟩ := trodVars_none hV
  obtain ⟨s0, rfl, rfl, rfl, ws0⟩ := open_string Try.underlying9 (hval 0 9 v0 rfl rfl) h0
  clear hA0 hval0
  refine (walk s0 W (by assumption)).mono fun e W' ⟨he, bel⟩ => ?_
  subst he
  exact ⟨_, rfl, _, _, _, [], _, [], hW', trodAll_mk1 (shut_bool Try.underlying4 _), (trodAll_cons_mk (shut_string Try.underlying9 ws0) trodAll_mk0), rfl, bel.frame _, fun h => by cases h⟩
theorem over : Rows.fnExactPackLineRow.holds Try.pinned (OpenSpec.ofChange Rows.fnExactPackLineSpec) :=
  OpenClaim.holds_of_wide 4 Try.f4 rfl rfl rfl rfl rfl rfl rfl ⟨rfl, rfl, rfl, rfl, rfl⟩ rfl rfl rfl rfl rfl (by kernel_rfl) Try.func4 (by kernel_rfl)
    (of_decide_eq_true (by kernel_rfl)) (by unfold Func.isWrapper; first | (rw [if_pos (by decide +kernel)]; kernel_rfl) | (rw [if_neg (by decide +kernel)]; exact ⟨rfl, rfl⟩))
    (fun os started H enc _ => lifted os started H enc)
end PlL
theorem fnExactPackLine_holds : Rows.FnExactPackLineSaid := PlL.over
#print axioms fnExactPackLine_holds
end Go.Proofs.Ytiliahibnhfhoaa
