/- Laid together: GqJ, GqK. -/
import Derived.Test.YtfgckeoigkoflaaGreatDoorJGraphOf46
import Derived.Test.YtfgckeoigkoflaaGreatDoorJGraphOf17
import Derived.Test.YtfgckeoigkoflaaGreatDoorJGraphOf19
import Derived.RangeFuncGives
import Derived.Sort.MapsRangeIn
import Derived.WalkKit
import Derived.OwnWalkIn
import Derived.TacticsInMore
import Derived.RegionIn
import Derived.LoopNIn
import Derived.LoopIn
/- The program's drawStep at every step, as far as its depth. -/
namespace Go.Proofs.YtfgckeoigkoflaaGreatDoor
open Go.RowKit
set_option linter.unusedVariables false
namespace Gr
open Ex (hid nvals at_of_owns owns_keep inR)
open Nd (NodeD)
open Gn (GNodeD)
open Fl (FlowD)
open St (StepD)
open Nst (own)
open Pf (PJ PJ_eq kidsL pFault PAt PCells KidsAt path manyOk)
open Rc
set_option maxRecDepth 100000 in
set_option maxHeartbeats 8000000 in
theorem callSeq (ss : List StepD) (u : Value) (wp : World) (D : Nat) (S : Nat → Prop) (g : GraphD) (d : Drawn) (k : Nat) (hk : k < ss.length) (kv vc ve : Value) (w : World) (h : DB w D S u g) (hp : PCells wp ss k hk kv vc ve) (hkd : ss[k].kind = 1)
    (HC : ∀ wx, Below w.heap.size w wx → Calls Tryz.prog 42 #[.pointer (some ⟨D, 0, none⟩), pstep ss k hk kv vc ve] wx (SPost D S u d wx)) :
    Calls Tryz.prog 19 #[.pointer (some ⟨D, 0, none⟩), pstep ss k hk kv vc ve] w (SPost D S u d w) := by
  obtain ⟨⟨ak, ck, rfl⟩, ⟨ac, cc, rfl⟩, ae, ce, rfl⟩ := pc_slices hp
  have hb0 : Below w.heap.size w ((w.alloc (.cells #[.int .i64 (k : Int), .int .i64 ((path ss (k + 1)).length : Int), .slice ak (kidsL ss k).length ck, .int .i64 1, .int .i64 ss[k].parent, .string ss[k].name, .int .i64 ss[k].arg, .slice ac ss[k].cond.length cc, .slice ae ss[k].expr.length ce] 61)).alloc (.cells #[.pointer none, .pointer none] 63)) := ((Below.refl _ w).alloc (Nat.le_refl _) _).alloc (by simp) _
  have HB0 := hid hb0
  have H1 := hid (HC _ hb0)
  have HLR : Hid (LB ((w.alloc (.cells #[.int .i64 (k : Int), .int .i64 ((path ss (k + 1)).length : Int), .slice ak (kidsL ss k).length ck, .int .i64 1, .int .i64 ss[k].parent, .string ss[k].name, .int .i64 ss[k].arg, .slice ac ss[k].cond.length cc, .slice ae ss[k].expr.length ce] 61)).alloc (.cells #[.pointer none, .pointer none] 63)) D S (w.heap.size + 1) (.cells #[.pointer none, .pointer none] 63)) := hid (by
    have := (h.below ((Below.refl _ w).alloc (Nat.le_refl _) (.cells #[.int .i64 (k : Int), .int .i64 ((path ss (k + 1)).length : Int), .slice ak (kidsL ss k).length ck, .int .i64 1, .int .i64 ss[k].parent, .string ss[k].name, .int .i64 ss[k].arg, .slice ac ss[k].cond.length cc, .slice ae ss[k].expr.length ce] 61))).new (.cells #[.pointer none, .pointer none] 63)
    rw [World.size_alloc] at this
    exact this)
  clear h hp hb0 HC
  unfold pstep at H1 ⊢
  unfold sval at H1 ⊢
  rw [hkd] at H1 ⊢
  clear hkd
  go_enter Tryz.func19, Tryz.ntmps19
  go_wp2_with fail
  refine H1.out.mono ?_
  rintro e w3 ⟨p, q, S3, rfl, hG3, hF3, hp3, hq3⟩
  have HR3 := hid (HLR.out.fr hF3)
  have HG3 := hid hG3
  have HF3 := hid hF3
  have HP3 := hid hp3
  have HQ3 := hid hq3
  have r0 := HR3.out.cell 0
  have r1 := HR3.out.cell 1
  have f0 := HR3.out.free 0
  have f1 := HR3.out.free 1
  clear hG3 hF3 hp3 hq3 H1 HLR
  go_wp2
  have hM := HR3.out.set (i := 0) (.pointer (some ⟨p, 0, none⟩))
  have hM2 := hM.set (i := 1) (.pointer (some ⟨q, 0, none⟩))
  have g0 := hM2.cell 0
  have g1 := hM2.cell 1
  refine bodyPost_ret (v := .agg #[.pointer (some ⟨p, 0, none⟩), .pointer (some ⟨q, 0, none⟩)]) (by simp [results, Tryz.results19, go_sem, g0, g1]) rfl ?_
  exact ⟨p, q, S3, rfl, (HG3.out.set HR3.out (by decide) (by decide) _).set hM (by decide) (by decide) _, (((Fr.of_below HB0.out).trans HF3.out).set (Nat.le_succ _) _).set (Nat.le_succ _) _, (HP3.out.set HR3.out (by decide) _).set hM (by decide) _, (HQ3.out.set HR3.out (by decide) _).set hM (by decide) _⟩
set_option maxRecDepth 100000 in
set_option maxHeartbeats 8000000 in
theorem callXor (ss : List StepD) (u : Value) (wp : World) (D : Nat) (S : Nat → Prop) (g : GraphD) (d : Drawn) (k : Nat) (hk : k < ss.length) (kv vc ve : Value) (w : World) (h : DB w D S u g) (hp : PCells wp ss k hk kv vc ve) (hkd : ss[k].kind = 3)
    (HC : ∀ wx, Below w.heap.size w wx → Calls Tryz.prog 43 #[.pointer (some ⟨D, 0, none⟩), pstep ss k hk kv vc ve, .int .i64 7, .int .i64 8] wx (SPost D S u d wx)) :
    Calls Tryz.prog 19 #[.pointer (some ⟨D, 0, none⟩), pstep ss k hk kv vc ve] w (SPost D S u d w) := by
  obtain ⟨⟨ak, ck, rfl⟩, ⟨ac, cc, rfl⟩, ae, ce, rfl⟩ := pc_slices hp
  have hb0 : Below w.heap.size w ((w.alloc (.cells #[.int .i64 (k : Int), .int .i64 ((path ss (k + 1)).length : Int), .slice ak (kidsL ss k).length ck, .int .i64 3, .int .i64 ss[k].parent, .string ss[k].name, .int .i64 ss[k].arg, .slice ac ss[k].cond.length cc, .slice ae ss[k].expr.length ce] 61)).alloc (.cells #[.pointer none, .pointer none] 63)) := ((Below.refl _ w).alloc (Nat.le_refl _) _).alloc (by simp) _
  have HB0 := hid hb0
  have H1 := hid (HC _ hb0)
  have HLR : Hid (LB ((w.alloc (.cells #[.int .i64 (k : Int), .int .i64 ((path ss (k + 1)).length : Int), .slice ak (kidsL ss k).length ck, .int .i64 3, .int .i64 ss[k].parent, .string ss[k].name, .int .i64 ss[k].arg, .slice ac ss[k].cond.length cc, .slice ae ss[k].expr.length ce] 61)).alloc (.cells #[.pointer none, .pointer none] 63)) D S (w.heap.size + 1) (.cells #[.pointer none, .pointer none] 63)) := hid (by
    have := (h.below ((Below.refl _ w).alloc (Nat.le_refl _) (.cells #[.int .i64 (k : Int), .int .i64 ((path ss (k + 1)).length : Int), .slice ak (kidsL ss k).length ck, .int .i64 3, .int .i64 ss[k].parent, .string ss[k].name, .int .i64 ss[k].arg, .slice ac ss[k].cond.length cc, .slice ae ss[k].expr.length ce] 61))).new (.cells #[.pointer none, .pointer none] 63)
    rw [World.size_alloc] at this
    exact this)
  clear h hp hb0 HC
  unfold pstep at H1 ⊢
  unfold sval at H1 ⊢
  rw [hkd] at H1 ⊢
  clear hkd
  go_enter Tryz.func19, Tryz.ntmps19
  go_wp2_with fail
  refine H1.out.mono ?_
  rintro e w3 ⟨p, q, S3, rfl, hG3, hF3, hp3, hq3⟩
  have HR3 := hid (HLR.out.fr hF3)
  have HG3 := hid hG3
  have HF3 := hid hF3
  have HP3 := hid hp3
  have HQ3 := hid hq3
  have r0 := HR3.out.cell 0
  have r1 := HR3.out.cell 1
  have f0 := HR3.out.free 0
  have f1 := HR3.out.free 1
  clear hG3 hF3 hp3 hq3 H1 HLR
  go_wp2
  have hM := HR3.out.set (i := 0) (.pointer (some ⟨p, 0, none⟩))
  have hM2 := hM.set (i := 1) (.pointer (some ⟨q, 0, none⟩))
  have g0 := hM2.cell 0
  have g1 := hM2.cell 1
  refine bodyPost_ret (v := .agg #[.pointer (some ⟨p, 0, none⟩), .pointer (some ⟨q, 0, none⟩)]) (by simp [results, Tryz.results19, go_sem, g0, g1]) rfl ?_
  exact ⟨p, q, S3, rfl, (HG3.out.set HR3.out (by decide) (by decide) _).set hM (by decide) (by decide) _, (((Fr.of_below HB0.out).trans HF3.out).set (Nat.le_succ _) _).set (Nat.le_succ _) _, (HP3.out.set HR3.out (by decide) _).set hM (by decide) _, (HQ3.out.set HR3.out (by decide) _).set hM (by decide) _⟩
set_option maxRecDepth 100000 in
set_option maxHeartbeats 8000000 in
theorem callAnd (ss : List StepD) (u : Value) (wp : World) (D : Nat) (S : Nat → Prop) (g : GraphD) (d : Drawn) (k : Nat) (hk : k < ss.length) (kv vc ve : Value) (w : World) (h : DB w D S u g) (hp : PCells wp ss k hk kv vc ve) (hkd : ss[k].kind = 4)
    (HC : ∀ wx, Below w.heap.size w wx → Calls Tryz.prog 43 #[.pointer (some ⟨D, 0, none⟩), pstep ss k hk kv vc ve, .int .i64 9, .int .i64 10] wx (SPost D S u d wx)) :
    Calls Tryz.prog 19 #[.pointer (some ⟨D, 0, none⟩), pstep ss k hk kv vc ve] w (SPost D S u d w) := by
  obtain ⟨⟨ak, ck, rfl⟩, ⟨ac, cc, rfl⟩, ae, ce, rfl⟩ := pc_slices hp
  have hb0 : Below w.heap.size w ((w.alloc (.cells #[.int .i64 (k : Int), .int .i64 ((path ss (k + 1)).length : Int), .slice ak (kidsL ss k).length ck, .int .i64 4, .int .i64 ss[k].parent, .string ss[k].name, .int .i64 ss[k].arg, .slice ac ss[k].cond.length cc, .slice ae ss[k].expr.length ce] 61)).alloc (.cells #[.pointer none, .pointer none] 63)) := ((Below.refl _ w).alloc (Nat.le_refl _) _).alloc (by simp) _
  have HB0 := hid hb0
  have H1 := hid (HC _ hb0)
  have HLR : Hid (LB ((w.alloc (.cells #[.int .i64 (k : Int), .int .i64 ((path ss (k + 1)).length : Int), .slice ak (kidsL ss k).length ck, .int .i64 4, .int .i64 ss[k].parent, .string ss[k].name, .int .i64 ss[k].arg, .slice ac ss[k].cond.length cc, .slice ae ss[k].expr.length ce] 61)).alloc (.cells #[.pointer none, .pointer none] 63)) D S (w.heap.size + 1) (.cells #[.pointer none, .pointer none] 63)) := hid (by
    have := (h.below ((Below.refl _ w).alloc (Nat.le_refl _) (.cells #[.int .i64 (k : Int), .int .i64 ((path ss (k + 1)).length : Int), .slice ak (kidsL ss k).length ck, .int .i64 4, .int .i64 ss[k].parent, .string ss[k].name, .int .i64 ss[k].arg, .slice ac ss[k].cond.length cc, .slice ae ss[k].expr.length ce] 61))).new (.cells #[.pointer none, .pointer none] 63)
    rw [World.size_alloc] at this
    exact this)
  clear h hp hb0 HC
  unfold pstep at H1 ⊢
  unfold sval at H1 ⊢
  rw [hkd] at H1 ⊢
  clear hkd
  go_enter Tryz.func19, Tryz.ntmps19
  go_wp2_with fail
  refine H1.out.mono ?_
  rintro e w3 ⟨p, q, S3, rfl, hG3, hF3, hp3, hq3⟩
  have HR3 := hid (HLR.out.fr hF3)
  have HG3 := hid hG3
  have HF3 := hid hF3
  have HP3 := hid hp3
  have HQ3 := hid hq3
  have r0 := HR3.out.cell 0
  have r1 := HR3.out.cell 1
  have f0 := HR3.out.free 0
  have f1 := HR3.out.free 1
  clear hG3 hF3 hp3 hq3 H1 HLR
  go_wp2
  have hM := HR3.out.set (i := 0) (.pointer (some ⟨p, 0, none⟩))
  have hM2 := hM.set (i := 1) (.pointer (some ⟨q, 0, none⟩))
  have g0 := hM2.cell 0
  have g1 := hM2.cell 1
  refine bodyPost_ret (v := .agg #[.pointer (some ⟨p, 0, none⟩), .pointer (some ⟨q, 0, none⟩)]) (by simp [results, Tryz.results19, go_sem, g0, g1]) rfl ?_
  exact ⟨p, q, S3, rfl, (HG3.out.set HR3.out (by decide) (by decide) _).set hM (by decide) (by decide) _, (((Fr.of_below HB0.out).trans HF3.out).set (Nat.le_succ _) _).set (Nat.le_succ _) _, (HP3.out.set HR3.out (by decide) _).set hM (by decide) _, (HQ3.out.set HR3.out (by decide) _).set hM (by decide) _⟩
set_option maxRecDepth 100000 in
set_option maxHeartbeats 8000000 in
theorem callGuard' (ss : List StepD) (u : Value) (wp : World) (D : Nat) (S : Nat → Prop) (g : GraphD) (d : Drawn) (k : Nat) (hk : k < ss.length) (kv vc ve : Value) (w : World) (h : DB w D S u g) (hp : PCells wp ss k hk kv vc ve) (hkd : ss[k].kind = 8)
    (HC : ∀ wx, Below w.heap.size w wx → Calls Tryz.prog 44 #[.pointer (some ⟨D, 0, none⟩), pstep ss k hk kv vc ve] wx (SPost D S u d wx)) :
    Calls Tryz.prog 19 #[.pointer (some ⟨D, 0, none⟩), pstep ss k hk kv vc ve] w (SPost D S u d w) := by
  obtain ⟨⟨ak, ck, rfl⟩, ⟨ac, cc, rfl⟩, ae, ce, rfl⟩ := pc_slices hp
  have hb0 : Below w.heap.size w ((w.alloc (.cells #[.int .i64 (k : Int), .int .i64 ((path ss (k + 1)).length : Int), .slice ak (kidsL ss k).length ck, .int .i64 8, .int .i64 ss[k].parent, .string ss[k].name, .int .i64 ss[k].arg, .slice ac ss[k].cond.length cc, .slice ae ss[k].expr.length ce] 61)).alloc (.cells #[.pointer none, .pointer none] 63)) := ((Below.refl _ w).alloc (Nat.le_refl _) _).alloc (by simp) _
  have HB0 := hid hb0
  have H1 := hid (HC _ hb0)
  have HLR : Hid (LB ((w.alloc (.cells #[.int .i64 (k : Int), .int .i64 ((path ss (k + 1)).length : Int), .slice ak (kidsL ss k).length ck, .int .i64 8, .int .i64 ss[k].parent, .string ss[k].name, .int .i64 ss[k].arg, .slice ac ss[k].cond.length cc, .slice ae ss[k].expr.length ce] 61)).alloc (.cells #[.pointer none, .pointer none] 63)) D S (w.heap.size + 1) (.cells #[.pointer none, .pointer none] 63)) := hid (by
    have := (h.below ((Below.refl _ w).alloc (Nat.le_refl _) (.cells #[.int .i64 (k : Int), .int .i64 ((path ss (k + 1)).length : Int), .slice ak (kidsL ss k).length ck, .int .i64 8, .int .i64 ss[k].parent, .string ss[k].name, .int .i64 ss[k].arg, .slice ac ss[k].cond.length cc, .slice ae ss[k].expr.length ce] 61))).new (.cells #[.pointer none, .pointer none] 63)
    rw [World.size_alloc] at this
    exact this)
  clear h hp hb0 HC
  unfold pstep at H1 ⊢
  unfold sval at H1 ⊢
  rw [hkd] at H1 ⊢
  clear hkd
  go_enter Tryz.func19, Tryz.ntmps19
  go_wp2_with fail
  refine H1.out.mono ?_
  rintro e w3 ⟨p, q, S3, rfl, hG3, hF3, hp3, hq3⟩
  have HR3 := hid (HLR.out.fr hF3)
  have HG3 := hid hG3
  have HF3 := hid hF3
  have HP3 := hid hp3
  have HQ3 := hid hq3
  have r0 := HR3.out.cell 0
  have r1 := HR3.out.cell 1
  have f0 := HR3.out.free 0
  have f1 := HR3.out.free 1
  clear hG3 hF3 hp3 hq3 H1 HLR
  go_wp2
  have hM := HR3.out.set (i := 0) (.pointer (some ⟨p, 0, none⟩))
  have hM2 := hM.set (i := 1) (.pointer (some ⟨q, 0, none⟩))
  have g0 := hM2.cell 0
  have g1 := hM2.cell 1
  refine bodyPost_ret (v := .agg #[.pointer (some ⟨p, 0, none⟩), .pointer (some ⟨q, 0, none⟩)]) (by simp [results, Tryz.results19, go_sem, g0, g1]) rfl ?_
  exact ⟨p, q, S3, rfl, (HG3.out.set HR3.out (by decide) (by decide) _).set hM (by decide) (by decide) _, (((Fr.of_below HB0.out).trans HF3.out).set (Nat.le_succ _) _).set (Nat.le_succ _) _, (HP3.out.set HR3.out (by decide) _).set hM (by decide) _, (HQ3.out.set HR3.out (by decide) _).set hM (by decide) _⟩
theorem DG_all (ss : List StepD) (u : Value) (wp : World) (he : Env ss u wp) : ∀ f, DG ss u wp f
  | 0 => fun D S g k hk kv vc ve w _ _ _ _ _ hd _ _ => by
    have := deep_le he.pf hk
    omega
  | f + 1 => fun D S g k hk kv vc ve w hwp hb hG hg hp hd hn hfb => by
    have ih := DG_all ss u wp he f
    obtain ⟨h1, h2⟩ := kindOf he.pf hk
    have hpj := PJ_eq hk
    have hkk : ss[k].kind = 1 ∨ ss[k].kind = 2 ∨ ss[k].kind = 3 ∨ ss[k].kind = 4 ∨ ss[k].kind = 5 ∨ ss[k].kind = 6 ∨ ss[k].kind = 7 ∨ ss[k].kind = 8 := by omega
    have lone : ss[k].kind = 2 ∨ ss[k].kind = 5 ∨ ss[k].kind = 6 ∨ ss[k].kind = 7 → Calls Tryz.prog 19 #[.pointer (some ⟨D, 0, none⟩), pstep ss k hk kv vc ve] w (SPost D S u (stepG ss (f + 1) g k) w) := fun hq => by
      have e : stepG ss (f + 1) g k = loneG ss g k := by unfold stepG; rw [hpj, if_neg (by omega), if_neg (by omega), if_neg (by omega), if_neg (by omega)]
      rw [e]
      rcases hq with hq | hq | hq | hq
      · exact drawLone2 ss u wp he D S g k hk kv vc ve w hwp hb hG hp (by omega) hq
      · exact drawLone5 ss u wp he D S g k hk kv vc ve w hwp hb hG hp (by omega) hq
      · exact drawLone6 ss u wp he D S g k hk kv vc ve w hwp hb hG hp (by omega) hq
      · exact drawLone7 ss u wp he D S g k hk kv vc ve w hwp hb hG hp (by omega) hq
    rcases hkk with e | e | e | e | e | e | e | e
    · have e2 : stepG ss (f + 1) g k = seqG (stepG ss f) ss g k := by rw [stepG, hpj, if_neg (by omega), if_neg (by omega), if_neg (by omega), if_pos e]
      rw [e2]
      rw [e] at h2
      have h3 : 1 ≤ (kidsL ss k).length := by simpa [manyOk] using h2
      exact callSeq ss u wp D S g _ k hk kv vc ve w hG hp e (fun wx hbx => drawSeq ss u wp f he ih D S g k hk kv vc ve wx hwp (hb.trans (hbx.mono hb.size)) (hG.below hbx) hg hp (by omega) hn hfb h3)
    · exact lone (.inl e)
    · have e2 : stepG ss (f + 1) g k = manyG (stepG ss f) ss g k 7 8 := by rw [stepG, hpj, if_pos e]
      rw [e2]
      rw [e] at h2
      have h3 : 2 ≤ (kidsL ss k).length := by simpa [manyOk] using h2
      exact callXor ss u wp D S g _ k hk kv vc ve w hG hp e (fun wx hbx => drawSides ss u wp f he ih D S g k hk kv vc ve wx hwp (hb.trans (hbx.mono hb.size)) (hG.below hbx) hg hp (by omega) hn hfb (by omega) 7 8 (.inl rfl) (.inl rfl))
    · have e2 : stepG ss (f + 1) g k = manyG (stepG ss f) ss g k 9 10 := by rw [stepG, hpj, if_neg (by omega), if_pos e]
      rw [e2]
      rw [e] at h2
      have h3 : 2 ≤ (kidsL ss k).length := by simpa [manyOk] using h2
      exact callAnd ss u wp D S g _ k hk kv vc ve w hG hp e (fun wx hbx => drawSides ss u wp f he ih D S g k hk kv vc ve wx hwp (hb.trans (hbx.mono hb.size)) (hG.below hbx) hg hp (by omega) hn hfb (by omega) 9 10 (.inr rfl) (.inr rfl))
    · exact lone (.inr (.inl e))
    · exact lone (.inr (.inr (.inl e)))
    · exact lone (.inr (.inr (.inr e)))
    · have e2 : stepG ss (f + 1) g k = guardG (stepG ss f) ss g k := by rw [stepG, hpj, if_neg (by omega), if_neg (by omega), if_pos e]
      rw [e2]
      rw [e] at h2
      obtain ⟨k0, k1, hks⟩ := two_list (l := kidsL ss k) (by simpa [manyOk] using h2)
      exact callGuard' ss u wp D S g _ k hk kv vc ve w hG hp e (fun wx hbx => drawGuard ss u wp f he ih D S g k k0 k1 hk kv vc ve wx hwp (hb.trans (hbx.mono hb.size)) (hG.below hbx) hg hp (by omega) hn hfb hks)
end Gr
end Go.Proofs.YtfgckeoigkoflaaGreatDoor
/- maps.Keys over a map of flows: its keys come, each once, in some order. -/
namespace Go.Proofs.YtfgckeoigkoflaaGreatDoor
open Go.RowKit
set_option linter.unusedVariables false
namespace Mp
open Go.ChangeMaps (setBlock heap_setBlock_same heap_setBlock_other)
open Go.MapKept (Stamped)
theorem hid {p : Prop} (h : p) : Hid p := h
theorem heap_walk {w w1 : World} {r : Nat} {o o' : Obj} (hr : w.heap[r]? = some o) (ho : o.isWalk = true) (h : w1 = w ∨ w1 = w.drew) : w.grownBy (setBlock w1 r o') (some r) ∧ (setBlock w1 r o').heap[r]? = some o' ∧ (∀ k, k ≠ r → (setBlock w1 r o').heap[k]? = w.heap[k]?) := by
  have hl := (Array.getElem?_eq_some_iff.1 hr).1
  have hh : (setBlock w1 r o').heap = w.heap.setIfInBounds r o' := by rcases h with rfl | rfl <;> rfl
  have hk : ∀ k, k ≠ r → (setBlock w1 r o').heap[k]? = w.heap[k]? := fun k hk => by
    have : r ≠ k := fun e => hk e.symm
    rw [hh]
    simp [this]
  refine ⟨⟨by rcases h with rfl | rfl <;> rfl, by rcases h with rfl | rfl <;> rfl, by rcases h with rfl | rfl <;> rfl, by rw [hh]; simp, fun k _ hne => hk k (fun e => hne (by rw [e]))⟩, by rw [hh]; simp [hl], hk⟩
section
variable {F : Fence} {n : Nat} {P : Program} (w : World) {ops : Array Oper} {rest : List Oper} {o : Oper} {a : Act} {Q : Exit → Act → World → Prop}
theorem in_range (hg : o.guard = none) (m : Operand) (t k e : TypeId) (hop : o.op = Op.range t m) (ht : P.underlying t = some (.map k e)) {b clock : Nat} {es : Array MapEntry} (hm : a.eval m = .map (some b)) (hb : w.heap[b]? = some (.map es clock))
    (hK : wpListIn F n P ops Q rest (a.put o.dst (.pointer (some ⟨w.heap.size, 0, none⟩))) (w.alloc (.mapIter (some b) clock #[] clock))) : wpListIn F n P ops Q (o :: rest) a w := by
  refine wpListIn_plain hg fun K' hK' => ?_
  have hrun := run_range_map (P := P) w t k e b es clock ht hb
  unfold Oper.wpIn
  refine ⟨by simp [Oper.about, hop], ?_⟩
  rw [Oper.semAt_plain F _ _ (by rw [hop]; intro c hc'; cases hc')]
  simp [execOp, hop, hm, hrun, Result.andThen]
  exact hK' _ _ hK
theorem in_next (hg : o.guard = none) (it : Operand) (hop : o.op = Op.next it false) {r b since c0 clock : Nat} {seen : Array Nat} {es : Array MapEntry} (hit : a.eval it = .pointer (some ⟨r, 0, none⟩)) (hr : w.heap[r]? = some (.mapIter (some b) since seen c0)) (hb : w.heap[b]? = some (.map es clock)) (hold : ∀ x ∈ es.toList, x.born < since) (hsc : since ≤ c0)
    (hDone : Hid ((leftOf es seen).size = 0) → wpListIn F n P ops Q rest (a.put o.dst (.tuple #[.bool false])) w)
    (hMore : ∀ (e : MapEntry) (w' : World), Hid (e ∈ (leftOf es seen).toList ∧ w.grownBy w' (some r) ∧ w'.heap[r]? = some (.mapIter (some b) since (seen.push e.born) clock) ∧ ∀ k, k ≠ r → w'.heap[k]? = w.heap[k]?) → wpListIn F n P ops Q rest (a.put o.dst (.tuple #[.bool true, e.key, e.val])) w') : wpListIn F n P ops Q (o :: rest) a w := by
  refine wpListIn_plain hg fun K' hK' => ?_
  unfold Oper.wpIn
  refine ⟨by simp [Oper.about, hop], ?_⟩
  rw [Oper.semAt_plain F _ _ (by rw [hop]; intro c hc'; cases hc')]
  rcases run_next_at (P := P) w o.type r b since c0 seen es clock hr hb hold hsc with ⟨h0, hrun⟩ | ⟨e, he, w1, hal, hrun⟩
  · simp [execOp, hop, hit, hrun, Result.andThen]
    exact hK' _ _ (hDone h0)
  · simp [execOp, hop, hit, hrun, Result.andThen]
    exact hK' _ _ (hMore e _ ⟨he, heap_walk hr rfl hal⟩)
end
def unkv : Value → Int × Int
  | .agg cs => match cs.toList with
    | [.int _ x, .int _ y] => (x, y)
    | _ => (0, 0)
  | _ => (0, 0)
theorem un_kv (p : Int × Int) : unkv (kv p) = p := rfl
theorem left0 (es : Array MapEntry) : (leftOf es #[]).size + ([] : List MapEntry).length ≤ es.toList.length := by
  have : leftOf es #[] = es := by
    unfold leftOf
    rw [Array.filter_eq_self]
    intro e _
    simp
  rw [this]
  simp
/-- The entries that have come, in their order. -/
structure Came (es : Array MapEntry) (seen : Array Nat) (T : List MapEntry) : Prop where
  sub : ∀ e ∈ T, e ∈ es.toList
  born : T.map (·.born) = seen.toList
  nd : (T.map (·.born)).Nodup
theorem Came.nil (es : Array MapEntry) : Came es #[] [] := ⟨(fun e h => by cases h), rfl, List.nodup_nil⟩
theorem Came.step {es : Array MapEntry} {seen : Array Nat} {T : List MapEntry} (h : Came es seen T) {e : MapEntry} (he : e ∈ (leftOf es seen).toList) : Came es (seen.push e.born) (T ++ [e]) := by
  obtain ⟨h1, h2⟩ := mem_left he
  refine ⟨fun x hx => ?_, by rw [List.map_append, h.born]; simp, ?_⟩
  · rcases List.mem_append.1 hx with hx | hx
    · exact h.sub x hx
    · simp at hx; rw [hx]; exact h1
  · rw [List.map_append]
    refine List.nodup_append.2 ⟨h.nd, by simp, fun a ha b hb e2 => ?_⟩
    have hb' : b = e.born := by simpa using hb
    rw [h.born, e2, hb'] at ha
    have : seen.contains e.born = true := by simpa using ha
    rw [h2] at this
    cases this
theorem Came.perm {es : Array MapEntry} {seen : Array Nat} {T : List MapEntry} {clock : Nat} (h : Came es seen T) (hs : Stamped es clock) (h0 : (leftOf es seen).size = 0) : T.Perm es.toList := by
  have n1 : T.Nodup := (List.pairwise_map.1 h.nd).imp (fun hne e => hne (by rw [e]))
  have n2 : es.toList.Nodup := (List.pairwise_map.1 hs.2.1).imp (fun hne e => hne (by rw [e]))
  refine (List.perm_ext_iff_of_nodup n1 n2).2 (fun e => ⟨h.sub e, fun he => ?_⟩)
  have hc := all_seen es seen h0 e he
  have hm : e.born ∈ T.map (·.born) := by rw [h.born]; simpa using hc
  obtain ⟨e2, h2, h3⟩ := List.mem_map.1 hm
  have : e2 = e := born_inj hs.2.1 (h.sub e2 h2) he h3
  rw [← this]
  exact h2
theorem Came.len {es : Array MapEntry} {seen : Array Nat} {T : List MapEntry} (h : Came es seen T) : T.length = seen.size := by
  have := congrArg List.length h.born
  simpa using this
set_option maxRecDepth 100000 in
set_option maxHeartbeats 4000000 in
theorem keys1 (n : Nat) (l Bm b : Nat) (E : List Ent) (J : List (Int × Int) → World → Prop)
    (hY : ∀ pre x W, J pre W → pre.length < E.length → YieldAt Fence.wide (n - 1) Tryz.prog l #[kv x] W fun e W' => e = .returned (.bool true) ∧ J (pre ++ [x]) W' ∧ KeepsWalks W W')
    (W : World) (hJ : AbidesFrom W.heap.size J) (hm : W.cell? ⟨Bm, 0, none⟩ = some (.map (some b))) (hat : At W b E) (h0 : J [] W) :
    CallsIn Fence.wide n Tryz.prog 81 #[.func (.yield l) #[] #[], .pointer (some ⟨Bm, 0, none⟩)] W fun e W' => (∃ v, e = .returned v) ∧ ∃ ss : List (Int × Int), ss.Perm (E.map (·.1)) ∧ J ss W' := by
  have hlt := hat.lt
  obtain ⟨es, clock, hb, hs, he, hr⟩ := hat
  have hlen : es.toList.length = E.length := by have := congrArg List.length he; simpa using this
  have hkeys : es.toList.map (fun x => unkv x.key) = E.map (·.1) := by
    have : (es.toList.map (fun x => (x.key, x.val))).map (fun p => unkv p.1) = (E.map (fun p => (kv p.1, p.2))).map (fun p => unkv p.1) := by rw [he]
    simpa [Function.comp_def, un_kv] using this
  have hkv : ∀ e ∈ es.toList, ∃ p : Int × Int, e.key = kv p := fun e hm => by
    have : (e.key, e.val) ∈ E.map (fun p => (kv p.1, p.2)) := by rw [← he]; exact List.mem_map.2 ⟨e, hm, rfl⟩
    obtain ⟨p, hp, e2⟩ := List.mem_map.1 this
    simp at e2
    exact ⟨p.1, e2.1.symm⟩
  refine callsIn_of_wp Tryz.func81 rfl trivial ?_ rfl
  simp only [Tryz.ntmps81, List.size_toArray, List.length_cons, List.length_nil, Nat.reduceAdd, Nat.reduceSub, Array.replicate_succ, Array.replicate_zero, List.push_toArray, List.append_toArray, List.nil_append, List.cons_append]
  have ht : Tryz.prog.underlying 51 = some (.map 103 101) := by kernel_rfl
  gi_wp2_with (first
    | (gi_at_range; refine in_range _ rfl _ 51 _ _ rfl ht rfl hb ?_)
    | gi_in)
  go_frame
  have hlb : ∀ {o : Obj} {k : Nat}, k < W.heap.size → (W.alloc o).heap[k]? = W.heap[k]? := fun {o k} hk => Below.heap_alloc W o k hk
  gi_loopw [3] (fun _ wr => ∃ (seen : Array Nat) (c0 : Nat) (T : List MapEntry), wr.heap[W.heap.size]? = some (.mapIter (some b) clock seen c0) ∧ clock ≤ c0 ∧ wr.heap[b]? = some (.map es clock) ∧ Came es seen T ∧ (leftOf es seen).size + T.length ≤ es.toList.length ∧ J (T.map (fun e => unkv e.key)) wr)
    (fun _ wr => wr.rangeLeft b W.heap.size)
  case atStart =>
    exact ⟨#[], clock, [], heap_alloc_new W _, Nat.le_refl _, (hlb hlt).trans hb, Came.nil es, left0 es, hJ [] W _ none h0 (World.grownBy_alloc W _ none) (fun r e => by cases e)⟩
  case round =>
    obtain ⟨seen, c0, T, hr1, hc0, hb1, hC, hcnt, hJ1⟩ := hrel
    gi_wp2_with (first
      | (gi_at_next; refine in_next _ rfl _ rfl rfl hr1 hb1 hs.1 hc0 ?_ ?_)
      | gi_in)
    · intro hz
      gi_wp2
      go_end0
      refine ⟨⟨_, rfl⟩, _, ?_, hJ1⟩
      rw [← hkeys]
      exact (hC.perm hs (by rw [hz.out]; rfl)).map _
    · intro e w2 HE
      obtain ⟨he2', hg2, hr2, hk2⟩ := HE.out
      have he2 : e ∈ (leftOf es seen).toList := Array.mem_toList_iff.2 he2'
      obtain ⟨x, hx⟩ := hkv e (mem_left he2).1
      have hC2 := hC.step he2
      have hsh := left_shrinks es seen e he2
      have hne : b ≠ W.heap.size := by omega
      have hb2 := (hk2 b hne).trans hb1
      have hJ2 := hJ _ _ _ (some W.heap.size) hJ1 hg2 (fun r e => by cases e; exact ⟨Nat.le_refl _, _, hr1, rfl⟩)
      have hen := run_entry_at (P := Tryz.prog) _ _ _ _ _ _ _ e hr2 hb2 (mem_left he2).1 hs.2.1
      rw [hx] at hen
      unfold kv at hen
      have HJ3 := hid (hJ _ _ _ none hJ2 (World.grownBy_alloc w2 (.cells #[.int .i64 x.1, .int .i64 x.2] 103) none) (fun r e => by cases e))
      obtain ⟨fn, tmps, assign, body, hy, hR⟩ := hY _ x _ HJ3.out (by simp; omega)
      unfold kv at hy
      have HSH := hid hsh
      have HR1 := hid hr1
      have HB1 := hid hb1
      have hr3 := (Below.heap_alloc w2 (.cells #[.int .i64 x.1, .int .i64 x.2] 103) _ (Array.getElem?_eq_some_iff.1 hr2).1).trans hr2
      have hb3 := (Below.heap_alloc w2 (.cells #[.int .i64 x.1, .int .i64 x.2] 103) _ (Array.getElem?_eq_some_iff.1 hb2).1).trans hb2
      have HXX : Hid (unkv e.key = x) := hid (by rw [hx]; rfl)
      clear hg2 hsh
      gi_wp2
      refine ⟨fun h => (by cases h), hR.mono ?_⟩
      rintro e3 W3 ⟨rfl, hJ4, hk4⟩
      have hr4 := hk4.same _ _ hr3 rfl
      have hb4 := hk4.same _ _ hb3 rfl
      clear hr3 hb3 hr2 hb2 hen hy hR hk2
      gi_wp2
      go_roundw
      case rel => exact ⟨seen.push e.born, clock, T ++ [e], hr4, Nat.le_refl _, hb4, hC2, by have := HSH.out; simp; simp at hcnt; omega, by rw [List.map_append, List.map_singleton, HXX.out]; exact hJ4⟩
      case measure =>
        have h1 : W3.rangeLeft b W.heap.size = (leftOf es (seen.push e.born)).size := by simp [World.rangeLeft, hr4, hb4]
        have h2 : wr.rangeLeft b W.heap.size = (leftOf es seen).size := by simp [World.rangeLeft, HR1.out, HB1.out]
        rw [h1, h2]
        exact HSH.out
/-- maps.Keys hands back an iterator over the keys. -/
theorem keysGives (n : Nat) (Bm b : Nat) (E : List Ent) (w : World) (hBm : Bm < w.heap.size) (hm : w.cell? ⟨Bm, 0, none⟩ = some (.map (some b))) (hat : At w b E) :
    SeqGives Fence.wide n Tryz.prog 81 #[.pointer (some ⟨Bm, 0, none⟩)] kv (fun ss => ss.Perm (E.map (·.1))) E.length w := fun l J W hW hJ hY h0 =>
  keys1 n l Bm b E J hY W hJ ((hW.cell (p := ⟨Bm, 0, none⟩) hBm).trans hm) (hat.keep (hW.block b hat.lt)) h0
set_option maxRecDepth 100000 in
set_option maxHeartbeats 400000 in
theorem keys (b : Nat) (w : World) : Calls Tryz.prog 47 #[.map (some b)] w fun e w' => e = .returned (.func (.func 81) #[] #[.pointer (some ⟨w.heap.size, 0, none⟩)]) ∧ w' = w.alloc (.cells #[.map (some b)] 51) := by
  go_enter Tryz.func47, Tryz.ntmps47
  go_wp2
  go_ret
  exact ⟨rfl, rfl⟩
end Mp
end Go.Proofs.YtfgckeoigkoflaaGreatDoor
