/- Whatever journal is handed in, JournalFault answers as the specification's JournalFault does, and the journal reads afterwards as before. No condition. -/
import Derived.Test.YtiliahibnhfhoaaRows
import Derived.ShutString
import Derived.ChangeOld
import Derived.ProofKit
import Derived.OpenShut
import Derived.Deep.RegionHeld3
import Derived.Test.YtiliahibnhfhoaaJnO
import Derived.Test.YtiliahibnhfhoaaJnT
import Derived.Test.YtiliahibnhfhoaaJnV
namespace Go.Proofs.Ytiliahibnhfhoaa
open Go.ChangeShapes Go.WideShapes Go.ChangeAt Go.RowKit
open Go.ChangeMaps (open_string shut_string)
set_option linter.unusedVariables false
namespace JfL
open Jn
set_option maxRecDepth 100000 in
set_option maxHeartbeats 8000000 in
theorem walk (s l : List UInt8) (v1 v2 : Value) (w : World) (hls : s.length ≤ maxLen) (hll : l.length ≤ maxLen) (ha1 : At w w.heap.size v1 s) (ha2 : At w w.heap.size v2 l) :
    Calls Try.prog 6 #[.agg #[v1, v2]] w fun e w' => e = .returned (.bool true) ∧ Below w.heap.size w w' := by
  obtain ⟨a1, c1, rfl, _⟩ := ha1.slice
  obtain ⟨a2, c2, rfl, _⟩ := ha2.slice
  have H1 := hid ha1
  have H2 := hid ha2
  unfold maxLen at hls hll
  have HSZ := hid (fun w' => szJ a1 a2 s.length c1 l.length c2 w' (by omega) (by omega))
  have I0 := hid (Inw.start w #[.slice a1 s.length c1, .slice a2 l.length c2] 41)
  clear ha1 ha2 hls hll
  go_enter Try.func6, Try.ntmps6
  go_wp2_with fail
  refine (HSZ.out _).mono ?_
  rintro e w1 ⟨⟨r, rfl, hr⟩, hb1⟩
  have I1 := hid (I0.out.below hb1)
  clear I0 hb1 HSZ
  by_cases q : r < 0
  · go_wp2
    go_ret
    exact ⟨rfl, I1.out.st⟩
  have hsl := hr (by omega)
  have hs : s.length ≤ 1048576 := by omega
  have hl : l.length ≤ 1048576 := by omega
  clear hr hsl
  have HTO := hid (fun w' (hb : Below w.heap.size w w') => toJ w.heap.size s l _ _ w' hs hl hb.size (H1.out.below hb (Nat.le_refl _)) (H2.out.below hb (Nat.le_refl _)))
  have HSP := hid (fun v1 v2 w' h1 h2 => specJFault w'.heap.size s l v1 v2 w' hs hl (Nat.le_refl _) h1 h2)
  have HIM := hid (fun v1 v2 w' h1 h2 => implJFault w'.heap.size s l v1 v2 w' hs hl (Nat.le_refl _) h1 h2)
  have HEQ := hid (fun x1 x2 y1 y2 w' h1 h2 h3 h4 => eqJ s l x1 x2 y1 y2 w' hs hl h1 h2 h3 h4)
  generalize jF s l = f at *
  have b1 : (f != f) = false := by simp
  have p10 := blk_cell (I1.out.b _ (List.mem_singleton.2 rfl)) (o := 0) (v := .slice a1 s.length c1) rfl
  have p11 := blk_cell (I1.out.b _ (List.mem_singleton.2 rfl)) (o := 1) (v := .slice a2 l.length c2) rfl
  go_wp2_with fail
  refine (HTO.out _ I1.out.st).mono ?_
  rintro e w2 ⟨y1, m1, y2, m2, rfl, hjo, hb2⟩
  have I2 := hid (I1.out.below hb2)
  have HJO := hid hjo
  clear I1 hb2 hjo p10 p11
  go_wp2_with fail
  refine (HSP.out _ _ _ HJO.out.o1.at HJO.out.o2.at).mono ?_
  rintro e w3 ⟨rfl, hb3⟩
  have I3 := hid (I2.out.below hb3)
  clear I2 hb3 HJO
  have p30 := blk_cell (I3.out.b _ (List.mem_singleton.2 rfl)) (o := 0) (v := .slice a1 s.length c1) rfl
  have p31 := blk_cell (I3.out.b _ (List.mem_singleton.2 rfl)) (o := 1) (v := .slice a2 l.length c2) rfl
  go_wp2_with fail
  refine (HTO.out _ I3.out.st).mono ?_
  rintro e w4 ⟨x1, k1, x2, k2, rfl, hjo, hb4⟩
  have I4 := hid (((I3.out.below hb4).new (P' := fun x => Jo x 0 (.slice x1 s.length k1) (.slice x2 l.length k2) s l) (hjo.mono (Nat.zero_le _)) (fun x y h hb => h.below hb (Nat.le_refl _))).add #[.slice x1 s.length k1, .slice x2 l.length k2] 44)
  clear I3 hb4 hjo p30 p31
  have q40 := blk_cell (I4.out.b _ (List.mem_cons_self ..)) (o := 0) (v := .slice x1 s.length k1) rfl
  have q41 := blk_cell (I4.out.b _ (List.mem_cons_self ..)) (o := 1) (v := .slice x2 l.length k2) rfl
  go_wp2_with fail
  refine (HIM.out _ _ _ I4.out.p.o1.at I4.out.p.o2.at).mono ?_
  rintro e w5 ⟨rfl, hb5⟩
  have I5 := hid (I4.out.below hb5)
  clear I4 hb5 q40 q41
  have x50 := blk_cell (I5.out.b _ (List.mem_cons_self ..)) (o := 0) (v := .slice x1 s.length k1) rfl
  have x51 := blk_cell (I5.out.b _ (List.mem_cons_self ..)) (o := 1) (v := .slice x2 l.length k2) rfl
  have p50 := blk_cell (I5.out.b _ (List.mem_cons_of_mem _ (List.mem_singleton.2 rfl))) (o := 0) (v := .slice a1 s.length c1) rfl
  have p51 := blk_cell (I5.out.b _ (List.mem_cons_of_mem _ (List.mem_singleton.2 rfl))) (o := 1) (v := .slice a2 l.length c2) rfl
  have hn5 := blk_lt (I5.out.b _ (List.mem_cons_self ..))
  have hn0 := blk_lt (I5.out.b _ (List.mem_cons_of_mem _ (List.mem_singleton.2 rfl)))
  dsimp only at hn5 hn0
  have hbd : Below w5.heap.size w5 w5.drew := (Below.refl _ w5).drew
  go_wp2_with fail
  refine wp_region_held_drew (S := fun wx => Below w5.heap.size w5 wx) (by kernel_rfl) hbd (fun hHeld => ?_)
  refine wpAnyH_take (i := 0) (oi := { dst := some 22, op := Go.Op.load 44 (Go.Operand.tmp 5), type := 44, pos := "exact.go:5089", after := #[], guard := none }) (v := .agg #[.slice x1 s.length k1, .slice x2 l.length k2]) rfl (by kernel_rfl) (by kernel_rfl) (by kernel_rfl) (fun _ _ _ h => h) (Or.inl ⟨by rfl, by intro w hSw; (try dsimp only at hSw); have ca := kept_cell hSw hn5 x50; have cb := kept_cell hSw hn5 x51; go_simp⟩) (by assumption) ?_
  simp only [Act.put, List.setIfInBounds_toArray, List.set_cons_zero, List.set_cons_succ]
  refine wpAnyH_take (i := 1) (oi := { dst := some 23, op := Go.Op.load 41 (Go.Operand.tmp 1), type := 41, pos := "exact.go:5089", after := #[], guard := none }) (v := .agg #[.slice a1 s.length c1, .slice a2 l.length c2]) rfl (by kernel_rfl) (by kernel_rfl) (by kernel_rfl) (fun _ _ _ h => h) (Or.inl ⟨by rfl, by intro w hSw; (try dsimp only at hSw); have ca := kept_cell hSw hn0 p50; have cb := kept_cell hSw hn0 p51; go_simp⟩) (by assumption) ?_
  simp only [Act.put, List.setIfInBounds_toArray, List.set_cons_zero, List.set_cons_succ]
  refine wpAnyH_ready (rs := [2]) (by kernel_rfl) (by simp) ?_
  refine AllReadyH.cons (o := { dst := some 24, op := Go.Op.call { callee := Go.Callee.value (Go.Operand.func 30), args := #[Go.Operand.tmp 23], argTypes := #[41] }, type := 44, pos := "exact.go:5089", after := #[{ on := 1, ground := Go.Ground.data }], guard := none }) rfl (fun K hK => ?_) AllReadyH.nil
  go_simp
  go_at_call 30
  refine (HTO.out _ (I5.out.below hbd).st).mono ?_
  rintro z w6 ⟨y1, m1, y2, m2, rfl, hjo, hb6⟩
  have hbb : Below w5.heap.size w5 w6 := hbd.trans (hb6.mono hbd.size)
  have HJO := hid hjo
  clear hjo hb6
  go_wp2_with fail
  refine hK.out _ _ hbb (fun hHeld => ?_)
  clear hK K
  try simp only [Act.put, List.setIfInBounds_toArray, List.set_cons_zero, List.set_cons_succ]
  refine wpAnyH_ready (rs := [3]) (by kernel_rfl) (by simp) ?_
  refine AllReadyH.cons (o := { dst := some 25, op := Go.Op.call { callee := Go.Callee.value (Go.Operand.func 32), args := #[Go.Operand.tmp 22, Go.Operand.tmp 24], argTypes := #[44, 44] }, type := 4, pos := "exact.go:5089", after := #[{ on := 0, ground := Go.Ground.data }, { on := 2, ground := Go.Ground.data }, { on := 2, ground := Go.Ground.chain }], guard := none }) rfl (fun K hK => ?_) AllReadyH.nil
  go_simp
  go_at_call 32
  refine (HEQ.out _ _ _ _ _ (I5.out.below hbb).p.o1.at (I5.out.below hbb).p.o2.at HJO.out.o1.at HJO.out.o2.at).mono ?_
  rintro z w7 ⟨rfl, hb7⟩
  have hbc : Below w5.heap.size w5 w7 := hbb.trans (hb7.mono hbb.size)
  clear hb7
  go_wp2_with fail
  refine hK.out _ _ hbc (fun hHeld => ?_)
  clear hK K
  try simp only [Act.put, List.setIfInBounds_toArray, List.set_cons_zero, List.set_cons_succ]
  refine wpAnyH_take (i := 4) (oi := { dst := some 26, op := Go.Op.unOp Go.UnOp.not 4 (Go.Operand.tmp 25), type := 4, pos := "exact.go:5089", after := #[{ on := 3, ground := Go.Ground.data }], guard := none }) (v := .bool false) rfl (by kernel_rfl) (by kernel_rfl) (by kernel_rfl) (fun _ _ _ h => h) (Or.inl ⟨by rfl, by intro w hSw; (try dsimp only at hSw); go_simp⟩) (by assumption) ?_
  simp only [Act.put, List.setIfInBounds_toArray, List.set_cons_zero, List.set_cons_succ]
  refine wpAnyH_done (by kernel_rfl) ?_ _
  have I7 := hid (I5.out.below hbc)
  clear I5 hbb hbd hbc x50 x51 p50 p51
  go_wp2
  go_ret
  exact ⟨rfl, I7.out.st⟩
theorem own : ownKnob Try.prog.godebug = none := by kernel_rfl
theorem laidOut : laidOutB Try.prog = true := by kernel_rfl
set_option maxRecDepth 100000 in
theorem lifted (os : Os) (started : os.Started) (H : Type) (enc : TypeId × Value → H) :
    ReturnsInHanded {} Try.checked os 6 .any (Rows.fnExactJournalFaultSpec.pre6 enc Try.prog Try.f6 Rows.fnExactJournalFaultRow.domain false) (Rows.fnExactJournalFaultSpec.post enc Try.prog Try.f6 false true false false) := by
  refine returnsInHanded_of_change (C := Try.checked) own started (by kernel_rfl) Try.func6
    (ChangeSpec.witness6 (enc := enc) (C := Try.checked) false ⟨#[], #[.agg #[.slice none 0 0, .slice none 0 0]], []⟩ 8 (by kernel_rfl) (by kernel_rfl) (by kernel_rfl) (by kernel_rfl)) ?_
  intro W base args ds gs before hval0 hW hcnd _
  have hval : ∀ (j : Nat) t v, Try.f6.params[j]? = some t → args[j]? = some v → Value.okWide Try.prog W .any base t v := hval0
  have hW' := hW
  obtain ⟨p, q, hA0, hV, rfl, hfz, hnd⟩ := hW
  have hA : DataW.TrodAll enc Try.prog W 0 (fun _ => true) true Try.f6.params.toList args.toList ds p := hA0
  rw [Try.params6] at hA hval
  obtain ⟨v0, vs0, d0, ds0, p0, q0, hargs, rfl, rfl, h0, r0⟩ := trodAll_cons hA
  obtain ⟨rfl, rfl, rfl⟩ := trodAll_nil r0
  obtain rfl : args = #[v0] := by cases args; simp_all
  obtain ⟨rfl, rfl⟩ := trodVars_none hV
  obtain ⟨cs0, rfl, _⟩ := okWide_struct Try.underlying41 (hval 0 41 v0 rfl rfl)
  have k0 := h0
  have lt0 : ∀ x ∈ p0, x.block < W.heap.size := by obtain ⟨m, hm⟩ := k0; exact DataW.trod_lt m _ _ _ hm
  obtain ⟨l0, m0, n0, f0, hc0, ga0, gb0, gk0, gl0⟩ : ∃ (l1 l2 : List UInt8) (v1 v2 : Value), cs0.toList = [v1, v2] ∧ Jn.At W W.heap.size v1 l1 ∧ Jn.At W W.heap.size v2 l2 ∧ l1.length ≤ maxLen ∧ l2.length ≤ maxLen := by
    obtain ⟨fuel, hf⟩ := h0
    exact Jn.open_journal (by simpa [Value.cells] using hf)
  obtain rfl : cs0 = #[n0, f0] := by cases cs0; simp_all
  clear hA0 hval0
  refine (walk l0 m0 _ _ W gk0 gl0 ga0 gb0).mono fun e W' ⟨he, bel⟩ => ?_
  subst he
  exact ⟨_, rfl, _, _, _, [], _, [], hW', trodAll_mk1 (shut_bool Try.underlying4 _), (trodAll_cons_mk (Below.trod laidOut (by kernel_rfl) (of_decide_eq_true (by kernel_rfl)) k0 bel lt0) trodAll_mk0), rfl, bel.frame _, fun h => by cases h⟩
theorem over : Rows.fnExactJournalFaultRow.holds Try.pinned (OpenSpec.ofChange Rows.fnExactJournalFaultSpec) :=
  OpenClaim.holds_of_wide 6 Try.f6 rfl rfl rfl rfl rfl rfl rfl ⟨rfl, rfl, rfl, rfl, rfl⟩ rfl rfl rfl rfl rfl (by kernel_rfl) Try.func6 (by kernel_rfl)
    (of_decide_eq_true (by kernel_rfl)) (by unfold Func.isWrapper; first | (rw [if_pos (by decide +kernel)]; kernel_rfl) | (rw [if_neg (by decide +kernel)]; exact ⟨rfl, rfl⟩))
    (fun os started H enc _ => lifted os started H enc)
end JfL
theorem fnExactJournalFault_holds : Rows.FnExactJournalFaultSaid := JfL.over
#print axioms fnExactJournalFault_holds
end Go.Proofs.Ytiliahibnhfhoaa
