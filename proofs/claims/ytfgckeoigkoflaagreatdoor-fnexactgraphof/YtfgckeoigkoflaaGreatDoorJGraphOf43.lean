/- The program's drawStep at a step that comes to one node. -/
import Derived.Test.YtfgckeoigkoflaaGreatDoorJGraphOf20
namespace Go.Proofs.YtfgckeoigkoflaaGreatDoor
open Go.RowKit
set_option linter.unusedVariables false
namespace Gr
open Ex (hid nvals at_of_owns owns_keep inR)
open Nd (NodeD)
open Gn (GNodeD)
open Fl (FlowD)
open St (StepD)
open Nst (own)
open Pf (PJ PJ_eq kidsL pFault PAt PCells KidsAt path of_p first_all of_one formOk)
open Rc
structure S9 (w : World) (b : Nat) (v0 v1 v2 v3 v4 v5 v6 v7 v8 : Value) : Prop where
  k0 : w.cell? ⟨b, 0, none⟩ = some v0
  k1 : w.cell? ⟨b, 1, none⟩ = some v1
  k2 : w.cell? ⟨b, 2, none⟩ = some v2
  k3 : w.cell? ⟨b, 3, none⟩ = some v3
  k4 : w.cell? ⟨b, 4, none⟩ = some v4
  k5 : w.cell? ⟨b, 5, none⟩ = some v5
  k6 : w.cell? ⟨b, 6, none⟩ = some v6
  k7 : w.cell? ⟨b, 7, none⟩ = some v7
  k8 : w.cell? ⟨b, 8, none⟩ = some v8
theorem S9.of {w : World} {D b : Nat} {S : Nat → Prop} {t : TypeId} {v0 v1 v2 v3 v4 v5 v6 v7 v8 : Value} (h : LB w D S b (.cells #[v0, v1, v2, v3, v4, v5, v6, v7, v8] t (0, 0))) : S9 w b v0 v1 v2 v3 v4 v5 v6 v7 v8 := ⟨h.cell 0, h.cell 1, h.cell 2, h.cell 3, h.cell 4, h.cell 5, h.cell 6, h.cell 7, h.cell 8⟩
theorem S9.drew {w : World} {b : Nat} {v0 v1 v2 v3 v4 v5 v6 v7 v8 : Value} (h : S9 w b v0 v1 v2 v3 v4 v5 v6 v7 v8) : S9 w.drew b v0 v1 v2 v3 v4 v5 v6 v7 v8 := ⟨h.k0, h.k1, h.k2, h.k3, h.k4, h.k5, h.k6, h.k7, h.k8⟩
set_option maxRecDepth 100000 in
set_option maxHeartbeats 400000 in
theorem kindLone2 (w : World) : Calls Tryz.prog 45 #[.int .i64 2] w fun e w' => e = .returned (.int .i64 3) ∧ w' = w := by
  go_enter Tryz.func45, Tryz.ntmps45
  go_wp2
  go_ret
  exact ⟨by simp, rfl⟩
set_option maxRecDepth 100000 in
set_option maxHeartbeats 400000 in
theorem kindLone5 (w : World) : Calls Tryz.prog 45 #[.int .i64 5] w fun e w' => e = .returned (.int .i64 4) ∧ w' = w := by
  go_enter Tryz.func45, Tryz.ntmps45
  go_wp2
  go_ret
  exact ⟨by simp, rfl⟩
set_option maxRecDepth 100000 in
set_option maxHeartbeats 400000 in
theorem kindLone6 (w : World) : Calls Tryz.prog 45 #[.int .i64 6] w fun e w' => e = .returned (.int .i64 5) ∧ w' = w := by
  go_enter Tryz.func45, Tryz.ntmps45
  go_wp2
  go_ret
  exact ⟨by simp, rfl⟩
set_option maxRecDepth 100000 in
set_option maxHeartbeats 400000 in
theorem kindLone7 (w : World) : Calls Tryz.prog 45 #[.int .i64 7] w fun e w' => e = .returned (.int .i64 6) ∧ w' = w := by
  go_enter Tryz.func45, Tryz.ntmps45
  go_wp2
  go_ret
  exact ⟨by simp, rfl⟩
theorem no_name {s : ByteArray} (h : s.toList.isEmpty = true) : s = ⟨#[]⟩ := by
  rw [ByteArray.toList_eq, List.isEmpty_iff] at h
  obtain ⟨⟨l⟩⟩ := s
  simp at h
  rw [h]
theorem lone_has {ss : List StepD} {k : Nat} (hpf : pFault ss = 0) (hk : k < ss.length) : Pf.bare ss[k] = true := by
  obtain ⟨_, h1, _⟩ := of_p hpf
  have e := (of_one (first_all h1 hk)).1
  rw [PJ_eq hk] at e
  exact (Bool.and_eq_true _ _ ▸ e).2
set_option maxRecDepth 100000 in
set_option maxHeartbeats 16000000 in
theorem drawLone2 (ss : List StepD) (u : Value) (wp : World) (he : Env ss u wp) (D : Nat) (S : Nat → Prop) (g : GraphD) (k : Nat) (hk : k < ss.length) (kv vc ve : Value) (w : World) (hwp : wp.heap.size + 1 ≤ D) (hb : Below wp.heap.size wp w) (h : DB w D S u g) (hp : PCells wp ss k hk kv vc ve) (hn : g.nodes.length ≤ 1000000000000) (hkd : ss[k].kind = 2) :
    Calls Tryz.prog 19 #[.pointer (some ⟨D, 0, none⟩), pstep ss k hk kv vc ve] w (SPost D S u (loneG ss g k) w) := by
  have hL : loneG ss g k = (addN g ⟨3, (k : Int), ss[k].name, 0, []⟩, g.nodes.length, g.nodes.length) := by
    have hbr := lone_has he.pf hk
    unfold loneG
    rw [PJ_eq hk]
    unfold Pf.bare at hbr
    rw [hkd] at hbr ⊢
    rw [Bool.and_eq_true, Bool.and_eq_true] at hbr
    obtain ⟨⟨b1, b2⟩, b3⟩ := hbr
    have a0 : ss[k].arg = 0 := by simpa [inR] using b2
    have e0 : ss[k].expr = [] := by simpa using b3
    simp [loneK, a0, e0]
  obtain ⟨⟨ak, ck, rfl⟩, ⟨ac, cc, rfl⟩, ae, ce, rfl⟩ := pc_slices hp
  have hb0 : Below w.heap.size w ((w.alloc (.cells #[.int .i64 (k : Int), .int .i64 ((path ss (k + 1)).length : Int), .slice ak (kidsL ss k).length ck, .int .i64 2, .int .i64 ss[k].parent, .string ss[k].name, .int .i64 ss[k].arg, .slice ac ss[k].cond.length cc, .slice ae ss[k].expr.length ce] 61)).alloc (.cells #[.pointer none, .pointer none] 63)) := ((Below.refl _ w).alloc (Nat.le_refl _) _).alloc (by simp) _
  have HB0 := hid hb0
  have h0 := h.below hb0
  have HA := hid (addAt ss u wp he D S g k hk _ _ _ _ hwp ((hb.trans (hb0.mono hb.size)).drew) (h0.below ((Below.refl _ _).drew)) hp hn 3 ⟨3, (k : Int), ss[k].name, 0, []⟩ (.inl ⟨rfl, rfl⟩))
  have HLB : Hid (LB ((w.alloc (.cells #[.int .i64 (k : Int), .int .i64 ((path ss (k + 1)).length : Int), .slice ak (kidsL ss k).length ck, .int .i64 2, .int .i64 ss[k].parent, .string ss[k].name, .int .i64 ss[k].arg, .slice ac ss[k].cond.length cc, .slice ae ss[k].expr.length ce] 61)).alloc (.cells #[.pointer none, .pointer none] 63)).drew D S w.heap.size (.cells #[.int .i64 (k : Int), .int .i64 ((path ss (k + 1)).length : Int), .slice ak (kidsL ss k).length ck, .int .i64 2, .int .i64 ss[k].parent, .string ss[k].name, .int .i64 ss[k].arg, .slice ac ss[k].cond.length cc, .slice ae ss[k].expr.length ce] 61)) := hid (((h.new _).below ((Below.refl _ _).alloc (Nat.le_refl _) _)).below ((Below.refl _ _).drew))
  have HLR : Hid (LB ((w.alloc (.cells #[.int .i64 (k : Int), .int .i64 ((path ss (k + 1)).length : Int), .slice ak (kidsL ss k).length ck, .int .i64 2, .int .i64 ss[k].parent, .string ss[k].name, .int .i64 ss[k].arg, .slice ac ss[k].cond.length cc, .slice ae ss[k].expr.length ce] 61)).alloc (.cells #[.pointer none, .pointer none] 63)).drew D S (w.heap.size + 1) (.cells #[.pointer none, .pointer none] 63)) := hid (by
    have := (h.below ((Below.refl _ w).alloc (Nat.le_refl _) (.cells #[.int .i64 (k : Int), .int .i64 ((path ss (k + 1)).length : Int), .slice ak (kidsL ss k).length ck, .int .i64 2, .int .i64 ss[k].parent, .string ss[k].name, .int .i64 ss[k].arg, .slice ac ss[k].cond.length cc, .slice ae ss[k].expr.length ce] 61))).new (.cells #[.pointer none, .pointer none] 63)
    rw [World.size_alloc] at this
    exact this.below ((Below.refl _ _).drew))
  have HL := hid hL
  have h9 := S9.of HLB.out
  clear h h0 hp hb hb0 he hL
  unfold pstep at HA ⊢
  unfold sval at HA ⊢
  rw [hkd] at HA ⊢
  clear hkd
  go_enter Tryz.func19, Tryz.ntmps19
  go_wp2_with fail
  refine wp_region_held_drew (S := fun wx => S9 wx w.heap.size (.int .i64 (k : Int)) (.int .i64 ((path ss (k + 1)).length : Int)) (.slice ak (kidsL ss k).length ck) (.int .i64 2) (.int .i64 ss[k].parent) (.string ss[k].name) (.int .i64 ss[k].arg) (.slice ac ss[k].cond.length cc) (.slice ae ss[k].expr.length ce)) (by kernel_rfl) h9 (fun hHeld => ?_)
  refine wpAnyH_take (i := 0) (oi := { dst := some 29, op := Go.Op.move (Go.Operand.tmp 0), type := 90, pos := "l06_graph.go:164", after := #[], guard := none }) (v := .pointer (some ⟨D, 0, none⟩)) rfl (by kernel_rfl) (by kernel_rfl) (by kernel_rfl) (fun _ _ _ h => h) (Or.inl ⟨by rfl, by intro w hSw; (try dsimp only at hSw); obtain ⟨s0, s1, s2, s3, s4, s5, s6, s7, s8⟩ := hSw; go_simp⟩) (by assumption) ?_
  simp only [Act.put, List.setIfInBounds_toArray, List.set_cons_zero, List.set_cons_succ]
  refine wpAnyH_take (i := 1) (oi := { dst := some 30, op := Go.Op.fieldAddr 61 (Go.Operand.tmp 3) 1, type := 0, pos := "l06_graph.go:164", after := #[], guard := none }) (v := .pointer (some ⟨w.heap.size, 3, none⟩)) rfl (by kernel_rfl) (by kernel_rfl) (by kernel_rfl) (fun _ _ _ h => h) (Or.inl ⟨by rfl, by intro w hSw; (try dsimp only at hSw); obtain ⟨s0, s1, s2, s3, s4, s5, s6, s7, s8⟩ := hSw; go_simp⟩) (by assumption) ?_
  simp only [Act.put, List.setIfInBounds_toArray, List.set_cons_zero, List.set_cons_succ]
  refine wpAnyH_take (i := 2) (oi := { dst := some 31, op := Go.Op.fieldAddr 46 (Go.Operand.tmp 30) 0, type := 0, pos := "l06_graph.go:164", after := #[{ on := 1, ground := Go.Ground.data }], guard := none }) (v := .pointer (some ⟨w.heap.size, 3, none⟩)) rfl (by kernel_rfl) (by kernel_rfl) (by kernel_rfl) (fun _ _ _ h => h) (Or.inl ⟨by rfl, by intro w hSw; (try dsimp only at hSw); obtain ⟨s0, s1, s2, s3, s4, s5, s6, s7, s8⟩ := hSw; go_simp⟩) (by assumption) ?_
  simp only [Act.put, List.setIfInBounds_toArray, List.set_cons_zero, List.set_cons_succ]
  refine wpAnyH_take (i := 3) (oi := { dst := some 32, op := Go.Op.load 2 (Go.Operand.tmp 31), type := 2, pos := "l06_graph.go:164", after := #[{ on := 2, ground := Go.Ground.data }], guard := none }) (v := .int .i64 2) rfl (by kernel_rfl) (by kernel_rfl) (by kernel_rfl) (fun _ _ _ h => h) (Or.inl ⟨by rfl, by intro w hSw; (try dsimp only at hSw); obtain ⟨s0, s1, s2, s3, s4, s5, s6, s7, s8⟩ := hSw; go_simp⟩) (by assumption) ?_
  simp only [Act.put, List.setIfInBounds_toArray, List.set_cons_zero, List.set_cons_succ]
  refine wpAnyH_take (i := 5) (oi := { dst := some 34, op := Go.Op.load 61 (Go.Operand.tmp 3), type := 61, pos := "l06_graph.go:164", after := #[], guard := none }) (v := .agg #[.int .i64 (k : Int), .int .i64 ((path ss (k + 1)).length : Int), .slice ak (kidsL ss k).length ck, .int .i64 2, .int .i64 ss[k].parent, .string ss[k].name, .int .i64 ss[k].arg, .slice ac ss[k].cond.length cc, .slice ae ss[k].expr.length ce]) rfl (by kernel_rfl) (by kernel_rfl) (by kernel_rfl) (fun _ _ _ h => h) (Or.inl ⟨by rfl, by intro w hSw; (try dsimp only at hSw); obtain ⟨s0, s1, s2, s3, s4, s5, s6, s7, s8⟩ := hSw; go_simp⟩) (by assumption) ?_
  simp only [Act.put, List.setIfInBounds_toArray, List.set_cons_zero, List.set_cons_succ]
  refine wpAnyH_ready (rs := [4]) (by kernel_rfl) (by simp) ?_
  refine (AllReadyH.cons (o := { dst := some 33, op := Go.Op.call { callee := Go.Callee.value (Go.Operand.func 45), args := #[Go.Operand.tmp 32], argTypes := #[2] }, type := 2, pos := "l06_graph.go:164", after := #[{ on := 3, ground := Go.Ground.data }], guard := none }) rfl (fun K hK => ?_) AllReadyH.nil)
  go_simp
  go_at_call 45
  refine (kindLone2 _).mono ?_
  rintro e w1 ⟨rfl, hw1⟩
  replace hw1 := hw1.symm
  subst hw1
  go_wp2_with fail
  refine hK.out _ _ h9 (fun hHeld => ?_)
  clear hK K
  try simp only [Act.put, List.setIfInBounds_toArray, List.set_cons_zero, List.set_cons_succ]
  refine wpAnyH_ready (rs := [6]) (by kernel_rfl) (by simp) ?_
  refine (AllReadyH.cons (o := { dst := some 35, op := Go.Op.call { callee := Go.Callee.value (Go.Operand.func 18), args := #[Go.Operand.tmp 29, Go.Operand.tmp 33, Go.Operand.tmp 34], argTypes := #[90, 2, 61] }, type := 55, pos := "l06_graph.go:164", after := #[{ on := 0, ground := Go.Ground.data }, { on := 4, ground := Go.Ground.data }, { on := 5, ground := Go.Ground.data }, { on := 4, ground := Go.Ground.chain }], guard := none }) rfl (fun K hK => ?_) AllReadyH.nil)
  go_simp
  go_at_call 18
  refine HA.out.mono ?_
  rintro e w3 ⟨p, S3, rfl, hG3, hF3, hp3⟩
  have hB3 := HLB.out.fr hF3
  have hR3 := HLR.out.fr hF3
  have h93 := S9.of hB3
  have HG3 := hid hG3
  have HF3 := hid hF3
  have HP3 := hid hp3
  have HR3 := hid hR3
  clear hG3 hF3 hp3 hB3 hR3
  go_wp2_with fail
  refine hK.out _ _ h93 (fun hHeld => ?_)
  clear hK K
  try simp only [Act.put, List.setIfInBounds_toArray, List.set_cons_zero, List.set_cons_succ]
  refine wpAnyH_take (i := 7) (oi := { dst := some 5, op := Go.Op.assign (Go.Operand.tmp 35), type := 55, pos := "l06_graph.go:164", after := #[{ on := 6, ground := Go.Ground.data }, { on := 6, ground := Go.Ground.chain }, { on := 0, ground := Go.Ground.phase }, { on := 1, ground := Go.Ground.phase }, { on := 2, ground := Go.Ground.phase }, { on := 3, ground := Go.Ground.phase }, { on := 4, ground := Go.Ground.phase }, { on := 5, ground := Go.Ground.phase }, { on := 6, ground := Go.Ground.phase }], guard := none }) (v := .pointer (some ⟨p, 0, none⟩)) rfl (by kernel_rfl) (by kernel_rfl) (by kernel_rfl) (fun _ _ _ h => h) (Or.inl ⟨by rfl, by intro w hSw; (try dsimp only at hSw); obtain ⟨s0, s1, s2, s3, s4, s5, s6, s7, s8⟩ := hSw; go_simp⟩) (by assumption) ?_
  simp only [Act.put, List.setIfInBounds_toArray, List.set_cons_zero, List.set_cons_succ]
  refine wpAnyH_done (by kernel_rfl) ?_ _
  have r0 := HR3.out.cell 0
  have r1 := HR3.out.cell 1
  have f0 := HR3.out.free 0
  have f1 := HR3.out.free 1
  clear h9 h93 hHeld HA HLB HLR
  go_wp2
  have q0 : ((w3.setCell ⟨w.heap.size + 1, 0, none⟩ (.pointer (some ⟨p, 0, none⟩))).setCell ⟨w.heap.size + 1, 1, none⟩ (.pointer (some ⟨p, 0, none⟩))).cell? ⟨w.heap.size + 1, 0, none⟩ = some (.pointer (some ⟨p, 0, none⟩)) := (HR3.out.set _).set _ |>.cell 0
  have q1 : ((w3.setCell ⟨w.heap.size + 1, 0, none⟩ (.pointer (some ⟨p, 0, none⟩))).setCell ⟨w.heap.size + 1, 1, none⟩ (.pointer (some ⟨p, 0, none⟩))).cell? ⟨w.heap.size + 1, 1, none⟩ = some (.pointer (some ⟨p, 0, none⟩)) := (HR3.out.set _).set _ |>.cell 1
  refine bodyPost_ret (v := .agg #[.pointer (some ⟨p, 0, none⟩), .pointer (some ⟨p, 0, none⟩)]) (by simp [results, Tryz.results19, go_sem, q0, q1]) rfl ?_
  rw [HL.out]
  exact ⟨p, p, S3, rfl, (HG3.out.set HR3.out (by decide) (by decide) _).set (HR3.out.set _) (by decide) (by decide) _, ((((Fr.of_below HB0.out).below' ((Below.refl _ _).drew)).trans HF3.out).set (Nat.le_succ _) _).set (Nat.le_succ _) _, (HP3.out.set HR3.out (by decide) _).set (HR3.out.set _) (by decide) _, (HP3.out.set HR3.out (by decide) _).set (HR3.out.set _) (by decide) _⟩
set_option maxRecDepth 100000 in
set_option maxHeartbeats 16000000 in
theorem drawLone5 (ss : List StepD) (u : Value) (wp : World) (he : Env ss u wp) (D : Nat) (S : Nat → Prop) (g : GraphD) (k : Nat) (hk : k < ss.length) (kv vc ve : Value) (w : World) (hwp : wp.heap.size + 1 ≤ D) (hb : Below wp.heap.size wp w) (h : DB w D S u g) (hp : PCells wp ss k hk kv vc ve) (hn : g.nodes.length ≤ 1000000000000) (hkd : ss[k].kind = 5) :
    Calls Tryz.prog 19 #[.pointer (some ⟨D, 0, none⟩), pstep ss k hk kv vc ve] w (SPost D S u (loneG ss g k) w) := by
  have hL : loneG ss g k = (addN g ⟨4, (k : Int), ⟨#[]⟩, ss[k].arg, []⟩, g.nodes.length, g.nodes.length) := by
    have hbr := lone_has he.pf hk
    unfold loneG
    rw [PJ_eq hk]
    unfold Pf.bare at hbr
    rw [hkd] at hbr ⊢
    rw [Bool.and_eq_true, Bool.and_eq_true] at hbr
    obtain ⟨⟨b1, b2⟩, b3⟩ := hbr
    have n0 : ss[k].name = ⟨#[]⟩ := no_name (by simpa using b1)
    have e0 : ss[k].expr = [] := by simpa using b3
    simp [loneK, n0, e0]
  obtain ⟨⟨ak, ck, rfl⟩, ⟨ac, cc, rfl⟩, ae, ce, rfl⟩ := pc_slices hp
  have hb0 : Below w.heap.size w ((w.alloc (.cells #[.int .i64 (k : Int), .int .i64 ((path ss (k + 1)).length : Int), .slice ak (kidsL ss k).length ck, .int .i64 5, .int .i64 ss[k].parent, .string ss[k].name, .int .i64 ss[k].arg, .slice ac ss[k].cond.length cc, .slice ae ss[k].expr.length ce] 61)).alloc (.cells #[.pointer none, .pointer none] 63)) := ((Below.refl _ w).alloc (Nat.le_refl _) _).alloc (by simp) _
  have HB0 := hid hb0
  have h0 := h.below hb0
  have HA := hid (addAt ss u wp he D S g k hk _ _ _ _ hwp ((hb.trans (hb0.mono hb.size)).drew) (h0.below ((Below.refl _ _).drew)) hp hn 4 ⟨4, (k : Int), ⟨#[]⟩, ss[k].arg, []⟩ (.inr (.inl ⟨.inl rfl, rfl⟩)))
  have HLB : Hid (LB ((w.alloc (.cells #[.int .i64 (k : Int), .int .i64 ((path ss (k + 1)).length : Int), .slice ak (kidsL ss k).length ck, .int .i64 5, .int .i64 ss[k].parent, .string ss[k].name, .int .i64 ss[k].arg, .slice ac ss[k].cond.length cc, .slice ae ss[k].expr.length ce] 61)).alloc (.cells #[.pointer none, .pointer none] 63)).drew D S w.heap.size (.cells #[.int .i64 (k : Int), .int .i64 ((path ss (k + 1)).length : Int), .slice ak (kidsL ss k).length ck, .int .i64 5, .int .i64 ss[k].parent, .string ss[k].name, .int .i64 ss[k].arg, .slice ac ss[k].cond.length cc, .slice ae ss[k].expr.length ce] 61)) := hid (((h.new _).below ((Below.refl _ _).alloc (Nat.le_refl _) _)).below ((Below.refl _ _).drew))
  have HLR : Hid (LB ((w.alloc (.cells #[.int .i64 (k : Int), .int .i64 ((path ss (k + 1)).length : Int), .slice ak (kidsL ss k).length ck, .int .i64 5, .int .i64 ss[k].parent, .string ss[k].name, .int .i64 ss[k].arg, .slice ac ss[k].cond.length cc, .slice ae ss[k].expr.length ce] 61)).alloc (.cells #[.pointer none, .pointer none] 63)).drew D S (w.heap.size + 1) (.cells #[.pointer none, .pointer none] 63)) := hid (by
    have := (h.below ((Below.refl _ w).alloc (Nat.le_refl _) (.cells #[.int .i64 (k : Int), .int .i64 ((path ss (k + 1)).length : Int), .slice ak (kidsL ss k).length ck, .int .i64 5, .int .i64 ss[k].parent, .string ss[k].name, .int .i64 ss[k].arg, .slice ac ss[k].cond.length cc, .slice ae ss[k].expr.length ce] 61))).new (.cells #[.pointer none, .pointer none] 63)
    rw [World.size_alloc] at this
    exact this.below ((Below.refl _ _).drew))
  have HL := hid hL
  have h9 := S9.of HLB.out
  clear h h0 hp hb hb0 he hL
  unfold pstep at HA ⊢
  unfold sval at HA ⊢
  rw [hkd] at HA ⊢
  clear hkd
  go_enter Tryz.func19, Tryz.ntmps19
  go_wp2_with fail
  refine wp_region_held_drew (S := fun wx => S9 wx w.heap.size (.int .i64 (k : Int)) (.int .i64 ((path ss (k + 1)).length : Int)) (.slice ak (kidsL ss k).length ck) (.int .i64 5) (.int .i64 ss[k].parent) (.string ss[k].name) (.int .i64 ss[k].arg) (.slice ac ss[k].cond.length cc) (.slice ae ss[k].expr.length ce)) (by kernel_rfl) h9 (fun hHeld => ?_)
  refine wpAnyH_take (i := 0) (oi := { dst := some 29, op := Go.Op.move (Go.Operand.tmp 0), type := 90, pos := "l06_graph.go:164", after := #[], guard := none }) (v := .pointer (some ⟨D, 0, none⟩)) rfl (by kernel_rfl) (by kernel_rfl) (by kernel_rfl) (fun _ _ _ h => h) (Or.inl ⟨by rfl, by intro w hSw; (try dsimp only at hSw); obtain ⟨s0, s1, s2, s3, s4, s5, s6, s7, s8⟩ := hSw; go_simp⟩) (by assumption) ?_
  simp only [Act.put, List.setIfInBounds_toArray, List.set_cons_zero, List.set_cons_succ]
  refine wpAnyH_take (i := 1) (oi := { dst := some 30, op := Go.Op.fieldAddr 61 (Go.Operand.tmp 3) 1, type := 0, pos := "l06_graph.go:164", after := #[], guard := none }) (v := .pointer (some ⟨w.heap.size, 3, none⟩)) rfl (by kernel_rfl) (by kernel_rfl) (by kernel_rfl) (fun _ _ _ h => h) (Or.inl ⟨by rfl, by intro w hSw; (try dsimp only at hSw); obtain ⟨s0, s1, s2, s3, s4, s5, s6, s7, s8⟩ := hSw; go_simp⟩) (by assumption) ?_
  simp only [Act.put, List.setIfInBounds_toArray, List.set_cons_zero, List.set_cons_succ]
  refine wpAnyH_take (i := 2) (oi := { dst := some 31, op := Go.Op.fieldAddr 46 (Go.Operand.tmp 30) 0, type := 0, pos := "l06_graph.go:164", after := #[{ on := 1, ground := Go.Ground.data }], guard := none }) (v := .pointer (some ⟨w.heap.size, 3, none⟩)) rfl (by kernel_rfl) (by kernel_rfl) (by kernel_rfl) (fun _ _ _ h => h) (Or.inl ⟨by rfl, by intro w hSw; (try dsimp only at hSw); obtain ⟨s0, s1, s2, s3, s4, s5, s6, s7, s8⟩ := hSw; go_simp⟩) (by assumption) ?_
  simp only [Act.put, List.setIfInBounds_toArray, List.set_cons_zero, List.set_cons_succ]
  refine wpAnyH_take (i := 3) (oi := { dst := some 32, op := Go.Op.load 2 (Go.Operand.tmp 31), type := 2, pos := "l06_graph.go:164", after := #[{ on := 2, ground := Go.Ground.data }], guard := none }) (v := .int .i64 5) rfl (by kernel_rfl) (by kernel_rfl) (by kernel_rfl) (fun _ _ _ h => h) (Or.inl ⟨by rfl, by intro w hSw; (try dsimp only at hSw); obtain ⟨s0, s1, s2, s3, s4, s5, s6, s7, s8⟩ := hSw; go_simp⟩) (by assumption) ?_
  simp only [Act.put, List.setIfInBounds_toArray, List.set_cons_zero, List.set_cons_succ]
  refine wpAnyH_take (i := 5) (oi := { dst := some 34, op := Go.Op.load 61 (Go.Operand.tmp 3), type := 61, pos := "l06_graph.go:164", after := #[], guard := none }) (v := .agg #[.int .i64 (k : Int), .int .i64 ((path ss (k + 1)).length : Int), .slice ak (kidsL ss k).length ck, .int .i64 5, .int .i64 ss[k].parent, .string ss[k].name, .int .i64 ss[k].arg, .slice ac ss[k].cond.length cc, .slice ae ss[k].expr.length ce]) rfl (by kernel_rfl) (by kernel_rfl) (by kernel_rfl) (fun _ _ _ h => h) (Or.inl ⟨by rfl, by intro w hSw; (try dsimp only at hSw); obtain ⟨s0, s1, s2, s3, s4, s5, s6, s7, s8⟩ := hSw; go_simp⟩) (by assumption) ?_
  simp only [Act.put, List.setIfInBounds_toArray, List.set_cons_zero, List.set_cons_succ]
  refine wpAnyH_ready (rs := [4]) (by kernel_rfl) (by simp) ?_
  refine (AllReadyH.cons (o := { dst := some 33, op := Go.Op.call { callee := Go.Callee.value (Go.Operand.func 45), args := #[Go.Operand.tmp 32], argTypes := #[2] }, type := 2, pos := "l06_graph.go:164", after := #[{ on := 3, ground := Go.Ground.data }], guard := none }) rfl (fun K hK => ?_) AllReadyH.nil)
  go_simp
  go_at_call 45
  refine (kindLone5 _).mono ?_
  rintro e w1 ⟨rfl, hw1⟩
  replace hw1 := hw1.symm
  subst hw1
  go_wp2_with fail
  refine hK.out _ _ h9 (fun hHeld => ?_)
  clear hK K
  try simp only [Act.put, List.setIfInBounds_toArray, List.set_cons_zero, List.set_cons_succ]
  refine wpAnyH_ready (rs := [6]) (by kernel_rfl) (by simp) ?_
  refine (AllReadyH.cons (o := { dst := some 35, op := Go.Op.call { callee := Go.Callee.value (Go.Operand.func 18), args := #[Go.Operand.tmp 29, Go.Operand.tmp 33, Go.Operand.tmp 34], argTypes := #[90, 2, 61] }, type := 55, pos := "l06_graph.go:164", after := #[{ on := 0, ground := Go.Ground.data }, { on := 4, ground := Go.Ground.data }, { on := 5, ground := Go.Ground.data }, { on := 4, ground := Go.Ground.chain }], guard := none }) rfl (fun K hK => ?_) AllReadyH.nil)
  go_simp
  go_at_call 18
  refine HA.out.mono ?_
  rintro e w3 ⟨p, S3, rfl, hG3, hF3, hp3⟩
  have hB3 := HLB.out.fr hF3
  have hR3 := HLR.out.fr hF3
  have h93 := S9.of hB3
  have HG3 := hid hG3
  have HF3 := hid hF3
  have HP3 := hid hp3
  have HR3 := hid hR3
  clear hG3 hF3 hp3 hB3 hR3
  go_wp2_with fail
  refine hK.out _ _ h93 (fun hHeld => ?_)
  clear hK K
  try simp only [Act.put, List.setIfInBounds_toArray, List.set_cons_zero, List.set_cons_succ]
  refine wpAnyH_take (i := 7) (oi := { dst := some 5, op := Go.Op.assign (Go.Operand.tmp 35), type := 55, pos := "l06_graph.go:164", after := #[{ on := 6, ground := Go.Ground.data }, { on := 6, ground := Go.Ground.chain }, { on := 0, ground := Go.Ground.phase }, { on := 1, ground := Go.Ground.phase }, { on := 2, ground := Go.Ground.phase }, { on := 3, ground := Go.Ground.phase }, { on := 4, ground := Go.Ground.phase }, { on := 5, ground := Go.Ground.phase }, { on := 6, ground := Go.Ground.phase }], guard := none }) (v := .pointer (some ⟨p, 0, none⟩)) rfl (by kernel_rfl) (by kernel_rfl) (by kernel_rfl) (fun _ _ _ h => h) (Or.inl ⟨by rfl, by intro w hSw; (try dsimp only at hSw); obtain ⟨s0, s1, s2, s3, s4, s5, s6, s7, s8⟩ := hSw; go_simp⟩) (by assumption) ?_
  simp only [Act.put, List.setIfInBounds_toArray, List.set_cons_zero, List.set_cons_succ]
  refine wpAnyH_done (by kernel_rfl) ?_ _
  have r0 := HR3.out.cell 0
  have r1 := HR3.out.cell 1
  have f0 := HR3.out.free 0
  have f1 := HR3.out.free 1
  clear h9 h93 hHeld HA HLB HLR
  go_wp2
  have q0 : ((w3.setCell ⟨w.heap.size + 1, 0, none⟩ (.pointer (some ⟨p, 0, none⟩))).setCell ⟨w.heap.size + 1, 1, none⟩ (.pointer (some ⟨p, 0, none⟩))).cell? ⟨w.heap.size + 1, 0, none⟩ = some (.pointer (some ⟨p, 0, none⟩)) := (HR3.out.set _).set _ |>.cell 0
  have q1 : ((w3.setCell ⟨w.heap.size + 1, 0, none⟩ (.pointer (some ⟨p, 0, none⟩))).setCell ⟨w.heap.size + 1, 1, none⟩ (.pointer (some ⟨p, 0, none⟩))).cell? ⟨w.heap.size + 1, 1, none⟩ = some (.pointer (some ⟨p, 0, none⟩)) := (HR3.out.set _).set _ |>.cell 1
  refine bodyPost_ret (v := .agg #[.pointer (some ⟨p, 0, none⟩), .pointer (some ⟨p, 0, none⟩)]) (by simp [results, Tryz.results19, go_sem, q0, q1]) rfl ?_
  rw [HL.out]
  exact ⟨p, p, S3, rfl, (HG3.out.set HR3.out (by decide) (by decide) _).set (HR3.out.set _) (by decide) (by decide) _, ((((Fr.of_below HB0.out).below' ((Below.refl _ _).drew)).trans HF3.out).set (Nat.le_succ _) _).set (Nat.le_succ _) _, (HP3.out.set HR3.out (by decide) _).set (HR3.out.set _) (by decide) _, (HP3.out.set HR3.out (by decide) _).set (HR3.out.set _) (by decide) _⟩
set_option maxRecDepth 100000 in
set_option maxHeartbeats 16000000 in
theorem drawLone6 (ss : List StepD) (u : Value) (wp : World) (he : Env ss u wp) (D : Nat) (S : Nat → Prop) (g : GraphD) (k : Nat) (hk : k < ss.length) (kv vc ve : Value) (w : World) (hwp : wp.heap.size + 1 ≤ D) (hb : Below wp.heap.size wp w) (h : DB w D S u g) (hp : PCells wp ss k hk kv vc ve) (hn : g.nodes.length ≤ 1000000000000) (hkd : ss[k].kind = 6) :
    Calls Tryz.prog 19 #[.pointer (some ⟨D, 0, none⟩), pstep ss k hk kv vc ve] w (SPost D S u (loneG ss g k) w) := by
  have hL : loneG ss g k = (addN g ⟨5, (k : Int), ⟨#[]⟩, ss[k].arg, []⟩, g.nodes.length, g.nodes.length) := by
    have hbr := lone_has he.pf hk
    unfold loneG
    rw [PJ_eq hk]
    unfold Pf.bare at hbr
    rw [hkd] at hbr ⊢
    rw [Bool.and_eq_true, Bool.and_eq_true] at hbr
    obtain ⟨⟨b1, b2⟩, b3⟩ := hbr
    have n0 : ss[k].name = ⟨#[]⟩ := no_name (by simpa using b1)
    have e0 : ss[k].expr = [] := by simpa using b3
    simp [loneK, n0, e0]
  obtain ⟨⟨ak, ck, rfl⟩, ⟨ac, cc, rfl⟩, ae, ce, rfl⟩ := pc_slices hp
  have hb0 : Below w.heap.size w ((w.alloc (.cells #[.int .i64 (k : Int), .int .i64 ((path ss (k + 1)).length : Int), .slice ak (kidsL ss k).length ck, .int .i64 6, .int .i64 ss[k].parent, .string ss[k].name, .int .i64 ss[k].arg, .slice ac ss[k].cond.length cc, .slice ae ss[k].expr.length ce] 61)).alloc (.cells #[.pointer none, .pointer none] 63)) := ((Below.refl _ w).alloc (Nat.le_refl _) _).alloc (by simp) _
  have HB0 := hid hb0
  have h0 := h.below hb0
  have HA := hid (addAt ss u wp he D S g k hk _ _ _ _ hwp ((hb.trans (hb0.mono hb.size)).drew) (h0.below ((Below.refl _ _).drew)) hp hn 5 ⟨5, (k : Int), ⟨#[]⟩, ss[k].arg, []⟩ (.inr (.inl ⟨.inr (.inl rfl), rfl⟩)))
  have HLB : Hid (LB ((w.alloc (.cells #[.int .i64 (k : Int), .int .i64 ((path ss (k + 1)).length : Int), .slice ak (kidsL ss k).length ck, .int .i64 6, .int .i64 ss[k].parent, .string ss[k].name, .int .i64 ss[k].arg, .slice ac ss[k].cond.length cc, .slice ae ss[k].expr.length ce] 61)).alloc (.cells #[.pointer none, .pointer none] 63)).drew D S w.heap.size (.cells #[.int .i64 (k : Int), .int .i64 ((path ss (k + 1)).length : Int), .slice ak (kidsL ss k).length ck, .int .i64 6, .int .i64 ss[k].parent, .string ss[k].name, .int .i64 ss[k].arg, .slice ac ss[k].cond.length cc, .slice ae ss[k].expr.length ce] 61)) := hid (((h.new _).below ((Below.refl _ _).alloc (Nat.le_refl _) _)).below ((Below.refl _ _).drew))
  have HLR : Hid (LB ((w.alloc (.cells #[.int .i64 (k : Int), .int .i64 ((path ss (k + 1)).length : Int), .slice ak (kidsL ss k).length ck, .int .i64 6, .int .i64 ss[k].parent, .string ss[k].name, .int .i64 ss[k].arg, .slice ac ss[k].cond.length cc, .slice ae ss[k].expr.length ce] 61)).alloc (.cells #[.pointer none, .pointer none] 63)).drew D S (w.heap.size + 1) (.cells #[.pointer none, .pointer none] 63)) := hid (by
    have := (h.below ((Below.refl _ w).alloc (Nat.le_refl _) (.cells #[.int .i64 (k : Int), .int .i64 ((path ss (k + 1)).length : Int), .slice ak (kidsL ss k).length ck, .int .i64 6, .int .i64 ss[k].parent, .string ss[k].name, .int .i64 ss[k].arg, .slice ac ss[k].cond.length cc, .slice ae ss[k].expr.length ce] 61))).new (.cells #[.pointer none, .pointer none] 63)
    rw [World.size_alloc] at this
    exact this.below ((Below.refl _ _).drew))
  have HL := hid hL
  have h9 := S9.of HLB.out
  clear h h0 hp hb hb0 he hL
  unfold pstep at HA ⊢
  unfold sval at HA ⊢
  rw [hkd] at HA ⊢
  clear hkd
  go_enter Tryz.func19, Tryz.ntmps19
  go_wp2_with fail
  refine wp_region_held_drew (S := fun wx => S9 wx w.heap.size (.int .i64 (k : Int)) (.int .i64 ((path ss (k + 1)).length : Int)) (.slice ak (kidsL ss k).length ck) (.int .i64 6) (.int .i64 ss[k].parent) (.string ss[k].name) (.int .i64 ss[k].arg) (.slice ac ss[k].cond.length cc) (.slice ae ss[k].expr.length ce)) (by kernel_rfl) h9 (fun hHeld => ?_)
  refine wpAnyH_take (i := 0) (oi := { dst := some 29, op := Go.Op.move (Go.Operand.tmp 0), type := 90, pos := "l06_graph.go:164", after := #[], guard := none }) (v := .pointer (some ⟨D, 0, none⟩)) rfl (by kernel_rfl) (by kernel_rfl) (by kernel_rfl) (fun _ _ _ h => h) (Or.inl ⟨by rfl, by intro w hSw; (try dsimp only at hSw); obtain ⟨s0, s1, s2, s3, s4, s5, s6, s7, s8⟩ := hSw; go_simp⟩) (by assumption) ?_
  simp only [Act.put, List.setIfInBounds_toArray, List.set_cons_zero, List.set_cons_succ]
  refine wpAnyH_take (i := 1) (oi := { dst := some 30, op := Go.Op.fieldAddr 61 (Go.Operand.tmp 3) 1, type := 0, pos := "l06_graph.go:164", after := #[], guard := none }) (v := .pointer (some ⟨w.heap.size, 3, none⟩)) rfl (by kernel_rfl) (by kernel_rfl) (by kernel_rfl) (fun _ _ _ h => h) (Or.inl ⟨by rfl, by intro w hSw; (try dsimp only at hSw); obtain ⟨s0, s1, s2, s3, s4, s5, s6, s7, s8⟩ := hSw; go_simp⟩) (by assumption) ?_
  simp only [Act.put, List.setIfInBounds_toArray, List.set_cons_zero, List.set_cons_succ]
  refine wpAnyH_take (i := 2) (oi := { dst := some 31, op := Go.Op.fieldAddr 46 (Go.Operand.tmp 30) 0, type := 0, pos := "l06_graph.go:164", after := #[{ on := 1, ground := Go.Ground.data }], guard := none }) (v := .pointer (some ⟨w.heap.size, 3, none⟩)) rfl (by kernel_rfl) (by kernel_rfl) (by kernel_rfl) (fun _ _ _ h => h) (Or.inl ⟨by rfl, by intro w hSw; (try dsimp only at hSw); obtain ⟨s0, s1, s2, s3, s4, s5, s6, s7, s8⟩ := hSw; go_simp⟩) (by assumption) ?_
  simp only [Act.put, List.setIfInBounds_toArray, List.set_cons_zero, List.set_cons_succ]
  refine wpAnyH_take (i := 3) (oi := { dst := some 32, op := Go.Op.load 2 (Go.Operand.tmp 31), type := 2, pos := "l06_graph.go:164", after := #[{ on := 2, ground := Go.Ground.data }], guard := none }) (v := .int .i64 6) rfl (by kernel_rfl) (by kernel_rfl) (by kernel_rfl) (fun _ _ _ h => h) (Or.inl ⟨by rfl, by intro w hSw; (try dsimp only at hSw); obtain ⟨s0, s1, s2, s3, s4, s5, s6, s7, s8⟩ := hSw; go_simp⟩) (by assumption) ?_
  simp only [Act.put, List.setIfInBounds_toArray, List.set_cons_zero, List.set_cons_succ]
  refine wpAnyH_take (i := 5) (oi := { dst := some 34, op := Go.Op.load 61 (Go.Operand.tmp 3), type := 61, pos := "l06_graph.go:164", after := #[], guard := none }) (v := .agg #[.int .i64 (k : Int), .int .i64 ((path ss (k + 1)).length : Int), .slice ak (kidsL ss k).length ck, .int .i64 6, .int .i64 ss[k].parent, .string ss[k].name, .int .i64 ss[k].arg, .slice ac ss[k].cond.length cc, .slice ae ss[k].expr.length ce]) rfl (by kernel_rfl) (by kernel_rfl) (by kernel_rfl) (fun _ _ _ h => h) (Or.inl ⟨by rfl, by intro w hSw; (try dsimp only at hSw); obtain ⟨s0, s1, s2, s3, s4, s5, s6, s7, s8⟩ := hSw; go_simp⟩) (by assumption) ?_
  simp only [Act.put, List.setIfInBounds_toArray, List.set_cons_zero, List.set_cons_succ]
  refine wpAnyH_ready (rs := [4]) (by kernel_rfl) (by simp) ?_
  refine (AllReadyH.cons (o := { dst := some 33, op := Go.Op.call { callee := Go.Callee.value (Go.Operand.func 45), args := #[Go.Operand.tmp 32], argTypes := #[2] }, type := 2, pos := "l06_graph.go:164", after := #[{ on := 3, ground := Go.Ground.data }], guard := none }) rfl (fun K hK => ?_) AllReadyH.nil)
  go_simp
  go_at_call 45
  refine (kindLone6 _).mono ?_
  rintro e w1 ⟨rfl, hw1⟩
  replace hw1 := hw1.symm
  subst hw1
  go_wp2_with fail
  refine hK.out _ _ h9 (fun hHeld => ?_)
  clear hK K
  try simp only [Act.put, List.setIfInBounds_toArray, List.set_cons_zero, List.set_cons_succ]
  refine wpAnyH_ready (rs := [6]) (by kernel_rfl) (by simp) ?_
  refine (AllReadyH.cons (o := { dst := some 35, op := Go.Op.call { callee := Go.Callee.value (Go.Operand.func 18), args := #[Go.Operand.tmp 29, Go.Operand.tmp 33, Go.Operand.tmp 34], argTypes := #[90, 2, 61] }, type := 55, pos := "l06_graph.go:164", after := #[{ on := 0, ground := Go.Ground.data }, { on := 4, ground := Go.Ground.data }, { on := 5, ground := Go.Ground.data }, { on := 4, ground := Go.Ground.chain }], guard := none }) rfl (fun K hK => ?_) AllReadyH.nil)
  go_simp
  go_at_call 18
  refine HA.out.mono ?_
  rintro e w3 ⟨p, S3, rfl, hG3, hF3, hp3⟩
  have hB3 := HLB.out.fr hF3
  have hR3 := HLR.out.fr hF3
  have h93 := S9.of hB3
  have HG3 := hid hG3
  have HF3 := hid hF3
  have HP3 := hid hp3
  have HR3 := hid hR3
  clear hG3 hF3 hp3 hB3 hR3
  go_wp2_with fail
  refine hK.out _ _ h93 (fun hHeld => ?_)
  clear hK K
  try simp only [Act.put, List.setIfInBounds_toArray, List.set_cons_zero, List.set_cons_succ]
  refine wpAnyH_take (i := 7) (oi := { dst := some 5, op := Go.Op.assign (Go.Operand.tmp 35), type := 55, pos := "l06_graph.go:164", after := #[{ on := 6, ground := Go.Ground.data }, { on := 6, ground := Go.Ground.chain }, { on := 0, ground := Go.Ground.phase }, { on := 1, ground := Go.Ground.phase }, { on := 2, ground := Go.Ground.phase }, { on := 3, ground := Go.Ground.phase }, { on := 4, ground := Go.Ground.phase }, { on := 5, ground := Go.Ground.phase }, { on := 6, ground := Go.Ground.phase }], guard := none }) (v := .pointer (some ⟨p, 0, none⟩)) rfl (by kernel_rfl) (by kernel_rfl) (by kernel_rfl) (fun _ _ _ h => h) (Or.inl ⟨by rfl, by intro w hSw; (try dsimp only at hSw); obtain ⟨s0, s1, s2, s3, s4, s5, s6, s7, s8⟩ := hSw; go_simp⟩) (by assumption) ?_
  simp only [Act.put, List.setIfInBounds_toArray, List.set_cons_zero, List.set_cons_succ]
  refine wpAnyH_done (by kernel_rfl) ?_ _
  have r0 := HR3.out.cell 0
  have r1 := HR3.out.cell 1
  have f0 := HR3.out.free 0
  have f1 := HR3.out.free 1
  clear h9 h93 hHeld HA HLB HLR
  go_wp2
  have q0 : ((w3.setCell ⟨w.heap.size + 1, 0, none⟩ (.pointer (some ⟨p, 0, none⟩))).setCell ⟨w.heap.size + 1, 1, none⟩ (.pointer (some ⟨p, 0, none⟩))).cell? ⟨w.heap.size + 1, 0, none⟩ = some (.pointer (some ⟨p, 0, none⟩)) := (HR3.out.set _).set _ |>.cell 0
  have q1 : ((w3.setCell ⟨w.heap.size + 1, 0, none⟩ (.pointer (some ⟨p, 0, none⟩))).setCell ⟨w.heap.size + 1, 1, none⟩ (.pointer (some ⟨p, 0, none⟩))).cell? ⟨w.heap.size + 1, 1, none⟩ = some (.pointer (some ⟨p, 0, none⟩)) := (HR3.out.set _).set _ |>.cell 1
  refine bodyPost_ret (v := .agg #[.pointer (some ⟨p, 0, none⟩), .pointer (some ⟨p, 0, none⟩)]) (by simp [results, Tryz.results19, go_sem, q0, q1]) rfl ?_
  rw [HL.out]
  exact ⟨p, p, S3, rfl, (HG3.out.set HR3.out (by decide) (by decide) _).set (HR3.out.set _) (by decide) (by decide) _, ((((Fr.of_below HB0.out).below' ((Below.refl _ _).drew)).trans HF3.out).set (Nat.le_succ _) _).set (Nat.le_succ _) _, (HP3.out.set HR3.out (by decide) _).set (HR3.out.set _) (by decide) _, (HP3.out.set HR3.out (by decide) _).set (HR3.out.set _) (by decide) _⟩
set_option maxRecDepth 100000 in
set_option maxHeartbeats 16000000 in
theorem drawLone7 (ss : List StepD) (u : Value) (wp : World) (he : Env ss u wp) (D : Nat) (S : Nat → Prop) (g : GraphD) (k : Nat) (hk : k < ss.length) (kv vc ve : Value) (w : World) (hwp : wp.heap.size + 1 ≤ D) (hb : Below wp.heap.size wp w) (h : DB w D S u g) (hp : PCells wp ss k hk kv vc ve) (hn : g.nodes.length ≤ 1000000000000) (hkd : ss[k].kind = 7) :
    Calls Tryz.prog 19 #[.pointer (some ⟨D, 0, none⟩), pstep ss k hk kv vc ve] w (SPost D S u (loneG ss g k) w) := by
  have hL : loneG ss g k = (addN g ⟨6, (k : Int), ⟨#[]⟩, ss[k].arg, ss[k].expr⟩, g.nodes.length, g.nodes.length) := by
    have hbr := lone_has he.pf hk
    unfold loneG
    rw [PJ_eq hk]
    unfold Pf.bare at hbr
    rw [hkd] at hbr ⊢
    rw [Bool.and_eq_true, Bool.and_eq_true] at hbr
    obtain ⟨⟨b1, b2⟩, b3⟩ := hbr
    have n0 : ss[k].name = ⟨#[]⟩ := no_name (by simpa using b1)
    simp [loneK, n0]
  obtain ⟨⟨ak, ck, rfl⟩, ⟨ac, cc, rfl⟩, ae, ce, rfl⟩ := pc_slices hp
  have hb0 : Below w.heap.size w ((w.alloc (.cells #[.int .i64 (k : Int), .int .i64 ((path ss (k + 1)).length : Int), .slice ak (kidsL ss k).length ck, .int .i64 7, .int .i64 ss[k].parent, .string ss[k].name, .int .i64 ss[k].arg, .slice ac ss[k].cond.length cc, .slice ae ss[k].expr.length ce] 61)).alloc (.cells #[.pointer none, .pointer none] 63)) := ((Below.refl _ w).alloc (Nat.le_refl _) _).alloc (by simp) _
  have HB0 := hid hb0
  have h0 := h.below hb0
  have HA := hid (addAt ss u wp he D S g k hk _ _ _ _ hwp ((hb.trans (hb0.mono hb.size)).drew) (h0.below ((Below.refl _ _).drew)) hp hn 6 ⟨6, (k : Int), ⟨#[]⟩, ss[k].arg, ss[k].expr⟩ (.inr (.inr (.inl ⟨rfl, rfl⟩))))
  have HLB : Hid (LB ((w.alloc (.cells #[.int .i64 (k : Int), .int .i64 ((path ss (k + 1)).length : Int), .slice ak (kidsL ss k).length ck, .int .i64 7, .int .i64 ss[k].parent, .string ss[k].name, .int .i64 ss[k].arg, .slice ac ss[k].cond.length cc, .slice ae ss[k].expr.length ce] 61)).alloc (.cells #[.pointer none, .pointer none] 63)).drew D S w.heap.size (.cells #[.int .i64 (k : Int), .int .i64 ((path ss (k + 1)).length : Int), .slice ak (kidsL ss k).length ck, .int .i64 7, .int .i64 ss[k].parent, .string ss[k].name, .int .i64 ss[k].arg, .slice ac ss[k].cond.length cc, .slice ae ss[k].expr.length ce] 61)) := hid (((h.new _).below ((Below.refl _ _).alloc (Nat.le_refl _) _)).below ((Below.refl _ _).drew))
  have HLR : Hid (LB ((w.alloc (.cells #[.int .i64 (k : Int), .int .i64 ((path ss (k + 1)).length : Int), .slice ak (kidsL ss k).length ck, .int .i64 7, .int .i64 ss[k].parent, .string ss[k].name, .int .i64 ss[k].arg, .slice ac ss[k].cond.length cc, .slice ae ss[k].expr.length ce] 61)).alloc (.cells #[.pointer none, .pointer none] 63)).drew D S (w.heap.size + 1) (.cells #[.pointer none, .pointer none] 63)) := hid (by
    have := (h.below ((Below.refl _ w).alloc (Nat.le_refl _) (.cells #[.int .i64 (k : Int), .int .i64 ((path ss (k + 1)).length : Int), .slice ak (kidsL ss k).length ck, .int .i64 7, .int .i64 ss[k].parent, .string ss[k].name, .int .i64 ss[k].arg, .slice ac ss[k].cond.length cc, .slice ae ss[k].expr.length ce] 61))).new (.cells #[.pointer none, .pointer none] 63)
    rw [World.size_alloc] at this
    exact this.below ((Below.refl _ _).drew))
  have HL := hid hL
  have h9 := S9.of HLB.out
  clear h h0 hp hb hb0 he hL
  unfold pstep at HA ⊢
  unfold sval at HA ⊢
  rw [hkd] at HA ⊢
  clear hkd
  go_enter Tryz.func19, Tryz.ntmps19
  go_wp2_with fail
  refine wp_region_held_drew (S := fun wx => S9 wx w.heap.size (.int .i64 (k : Int)) (.int .i64 ((path ss (k + 1)).length : Int)) (.slice ak (kidsL ss k).length ck) (.int .i64 7) (.int .i64 ss[k].parent) (.string ss[k].name) (.int .i64 ss[k].arg) (.slice ac ss[k].cond.length cc) (.slice ae ss[k].expr.length ce)) (by kernel_rfl) h9 (fun hHeld => ?_)
  refine wpAnyH_take (i := 0) (oi := { dst := some 29, op := Go.Op.move (Go.Operand.tmp 0), type := 90, pos := "l06_graph.go:164", after := #[], guard := none }) (v := .pointer (some ⟨D, 0, none⟩)) rfl (by kernel_rfl) (by kernel_rfl) (by kernel_rfl) (fun _ _ _ h => h) (Or.inl ⟨by rfl, by intro w hSw; (try dsimp only at hSw); obtain ⟨s0, s1, s2, s3, s4, s5, s6, s7, s8⟩ := hSw; go_simp⟩) (by assumption) ?_
  simp only [Act.put, List.setIfInBounds_toArray, List.set_cons_zero, List.set_cons_succ]
  refine wpAnyH_take (i := 1) (oi := { dst := some 30, op := Go.Op.fieldAddr 61 (Go.Operand.tmp 3) 1, type := 0, pos := "l06_graph.go:164", after := #[], guard := none }) (v := .pointer (some ⟨w.heap.size, 3, none⟩)) rfl (by kernel_rfl) (by kernel_rfl) (by kernel_rfl) (fun _ _ _ h => h) (Or.inl ⟨by rfl, by intro w hSw; (try dsimp only at hSw); obtain ⟨s0, s1, s2, s3, s4, s5, s6, s7, s8⟩ := hSw; go_simp⟩) (by assumption) ?_
  simp only [Act.put, List.setIfInBounds_toArray, List.set_cons_zero, List.set_cons_succ]
  refine wpAnyH_take (i := 2) (oi := { dst := some 31, op := Go.Op.fieldAddr 46 (Go.Operand.tmp 30) 0, type := 0, pos := "l06_graph.go:164", after := #[{ on := 1, ground := Go.Ground.data }], guard := none }) (v := .pointer (some ⟨w.heap.size, 3, none⟩)) rfl (by kernel_rfl) (by kernel_rfl) (by kernel_rfl) (fun _ _ _ h => h) (Or.inl ⟨by rfl, by intro w hSw; (try dsimp only at hSw); obtain ⟨s0, s1, s2, s3, s4, s5, s6, s7, s8⟩ := hSw; go_simp⟩) (by assumption) ?_
  simp only [Act.put, List.setIfInBounds_toArray, List.set_cons_zero, List.set_cons_succ]
  refine wpAnyH_take (i := 3) (oi := { dst := some 32, op := Go.Op.load 2 (Go.Operand.tmp 31), type := 2, pos := "l06_graph.go:164", after := #[{ on := 2, ground := Go.Ground.data }], guard := none }) (v := .int .i64 7) rfl (by kernel_rfl) (by kernel_rfl) (by kernel_rfl) (fun _ _ _ h => h) (Or.inl ⟨by rfl, by intro w hSw; (try dsimp only at hSw); obtain ⟨s0, s1, s2, s3, s4, s5, s6, s7, s8⟩ := hSw; go_simp⟩) (by assumption) ?_
  simp only [Act.put, List.setIfInBounds_toArray, List.set_cons_zero, List.set_cons_succ]
  refine wpAnyH_take (i := 5) (oi := { dst := some 34, op := Go.Op.load 61 (Go.Operand.tmp 3), type := 61, pos := "l06_graph.go:164", after := #[], guard := none }) (v := .agg #[.int .i64 (k : Int), .int .i64 ((path ss (k + 1)).length : Int), .slice ak (kidsL ss k).length ck, .int .i64 7, .int .i64 ss[k].parent, .string ss[k].name, .int .i64 ss[k].arg, .slice ac ss[k].cond.length cc, .slice ae ss[k].expr.length ce]) rfl (by kernel_rfl) (by kernel_rfl) (by kernel_rfl) (fun _ _ _ h => h) (Or.inl ⟨by rfl, by intro w hSw; (try dsimp only at hSw); obtain ⟨s0, s1, s2, s3, s4, s5, s6, s7, s8⟩ := hSw; go_simp⟩) (by assumption) ?_
  simp only [Act.put, List.setIfInBounds_toArray, List.set_cons_zero, List.set_cons_succ]
  refine wpAnyH_ready (rs := [4]) (by kernel_rfl) (by simp) ?_
  refine (AllReadyH.cons (o := { dst := some 33, op := Go.Op.call { callee := Go.Callee.value (Go.Operand.func 45), args := #[Go.Operand.tmp 32], argTypes := #[2] }, type := 2, pos := "l06_graph.go:164", after := #[{ on := 3, ground := Go.Ground.data }], guard := none }) rfl (fun K hK => ?_) AllReadyH.nil)
  go_simp
  go_at_call 45
  refine (kindLone7 _).mono ?_
  rintro e w1 ⟨rfl, hw1⟩
  replace hw1 := hw1.symm
  subst hw1
  go_wp2_with fail
  refine hK.out _ _ h9 (fun hHeld => ?_)
  clear hK K
  try simp only [Act.put, List.setIfInBounds_toArray, List.set_cons_zero, List.set_cons_succ]
  refine wpAnyH_ready (rs := [6]) (by kernel_rfl) (by simp) ?_
  refine (AllReadyH.cons (o := { dst := some 35, op := Go.Op.call { callee := Go.Callee.value (Go.Operand.func 18), args := #[Go.Operand.tmp 29, Go.Operand.tmp 33, Go.Operand.tmp 34], argTypes := #[90, 2, 61] }, type := 55, pos := "l06_graph.go:164", after := #[{ on := 0, ground := Go.Ground.data }, { on := 4, ground := Go.Ground.data }, { on := 5, ground := Go.Ground.data }, { on := 4, ground := Go.Ground.chain }], guard := none }) rfl (fun K hK => ?_) AllReadyH.nil)
  go_simp
  go_at_call 18
  refine HA.out.mono ?_
  rintro e w3 ⟨p, S3, rfl, hG3, hF3, hp3⟩
  have hB3 := HLB.out.fr hF3
  have hR3 := HLR.out.fr hF3
  have h93 := S9.of hB3
  have HG3 := hid hG3
  have HF3 := hid hF3
  have HP3 := hid hp3
  have HR3 := hid hR3
  clear hG3 hF3 hp3 hB3 hR3
  go_wp2_with fail
  refine hK.out _ _ h93 (fun hHeld => ?_)
  clear hK K
  try simp only [Act.put, List.setIfInBounds_toArray, List.set_cons_zero, List.set_cons_succ]
  refine wpAnyH_take (i := 7) (oi := { dst := some 5, op := Go.Op.assign (Go.Operand.tmp 35), type := 55, pos := "l06_graph.go:164", after := #[{ on := 6, ground := Go.Ground.data }, { on := 6, ground := Go.Ground.chain }, { on := 0, ground := Go.Ground.phase }, { on := 1, ground := Go.Ground.phase }, { on := 2, ground := Go.Ground.phase }, { on := 3, ground := Go.Ground.phase }, { on := 4, ground := Go.Ground.phase }, { on := 5, ground := Go.Ground.phase }, { on := 6, ground := Go.Ground.phase }], guard := none }) (v := .pointer (some ⟨p, 0, none⟩)) rfl (by kernel_rfl) (by kernel_rfl) (by kernel_rfl) (fun _ _ _ h => h) (Or.inl ⟨by rfl, by intro w hSw; (try dsimp only at hSw); obtain ⟨s0, s1, s2, s3, s4, s5, s6, s7, s8⟩ := hSw; go_simp⟩) (by assumption) ?_
  simp only [Act.put, List.setIfInBounds_toArray, List.set_cons_zero, List.set_cons_succ]
  refine wpAnyH_done (by kernel_rfl) ?_ _
  have r0 := HR3.out.cell 0
  have r1 := HR3.out.cell 1
  have f0 := HR3.out.free 0
  have f1 := HR3.out.free 1
  clear h9 h93 hHeld HA HLB HLR
  go_wp2
  have q0 : ((w3.setCell ⟨w.heap.size + 1, 0, none⟩ (.pointer (some ⟨p, 0, none⟩))).setCell ⟨w.heap.size + 1, 1, none⟩ (.pointer (some ⟨p, 0, none⟩))).cell? ⟨w.heap.size + 1, 0, none⟩ = some (.pointer (some ⟨p, 0, none⟩)) := (HR3.out.set _).set _ |>.cell 0
  have q1 : ((w3.setCell ⟨w.heap.size + 1, 0, none⟩ (.pointer (some ⟨p, 0, none⟩))).setCell ⟨w.heap.size + 1, 1, none⟩ (.pointer (some ⟨p, 0, none⟩))).cell? ⟨w.heap.size + 1, 1, none⟩ = some (.pointer (some ⟨p, 0, none⟩)) := (HR3.out.set _).set _ |>.cell 1
  refine bodyPost_ret (v := .agg #[.pointer (some ⟨p, 0, none⟩), .pointer (some ⟨p, 0, none⟩)]) (by simp [results, Tryz.results19, go_sem, q0, q1]) rfl ?_
  rw [HL.out]
  exact ⟨p, p, S3, rfl, (HG3.out.set HR3.out (by decide) (by decide) _).set (HR3.out.set _) (by decide) (by decide) _, ((((Fr.of_below HB0.out).below' ((Below.refl _ _).drew)).trans HF3.out).set (Nat.le_succ _) _).set (Nat.le_succ _) _, (HP3.out.set HR3.out (by decide) _).set (HR3.out.set _) (by decide) _, (HP3.out.set HR3.out (by decide) _).set (HR3.out.set _) (by decide) _⟩
end Gr
end Go.Proofs.YtfgckeoigkoflaaGreatDoor
