/- Whatever two desks are handed in, SameDesks answers as the specification's SameDesks does, and both read afterwards as before. No condition. -/
import Derived.Test.YtpninlangjfcfaaRows
import Derived.ShutString
import Derived.ChangeOld
import Derived.Deep.RegionHeld3
import Derived.Test.YtpninlangjfcfaaSdS
import Derived.Test.YtpninlangjfcfaaSdI
import Derived.Test.YtpninlangjfcfaaDkB
import Derived.Test.YtpninlangjfcfaaDkC
namespace Go.Proofs.Ytpninlangjfcfaa
open Go.ChangeShapes Go.WideShapes Go.ChangeAt Go.RowKit
set_option linter.unusedVariables false
namespace Dk
open Ex (hid)
open St (old_cell)
open Ch (blk_cell new_blk)
theorem Small.more {n m : Int} {d : DeskD} (h : Small n d) (hn : n ≤ m) : Small m d := ⟨h.eng.mono hn, by have := h.claims; omega⟩
theorem to1 (B : Nat) (e : DeskD) (vp vi vc : Value) (w : World) (hl : Small 1048576 e) (ha : At w B vp vi vc e) :
    Calls Try.prog 6 #[.agg #[vp, vi, .int .i64 e.eng.now, vc]] w fun z w' => ∃ up ui uc, z = .returned (.agg #[up, ui, .int .i64 e.eng.now, uc]) ∧ At w' w.heap.size up ui uc e ∧ Below w.heap.size w w' :=
  (to2 B e vp vi vc w hl ha).mono (fun z w' ⟨up, ui, uc, h1, h2, _, h4⟩ => ⟨up, ui, uc, h1, h2, h4⟩)
structure Five (w : World) (P : Nat) (a b c d : Value) : Prop where
  c0 : w.cell? ⟨P, 0, none⟩ = some a
  c1 : w.cell? ⟨P, 1, none⟩ = some b
  c2 : w.cell? ⟨P, 2, none⟩ = some c
  c3 : w.cell? ⟨P, 3, none⟩ = some d
theorem Five.below {w w' : World} {P B : Nat} {a b c d : Value} (h : Five w P a b c d) (hl : P < B) (hb : Below B w w') : Five w' P a b c d := ⟨old_cell hb hl h.c0, old_cell hb hl h.c1, old_cell hb hl h.c2, old_cell hb hl h.c3⟩
structure Two (w : World) (P Q : Nat) (a b c d a' b' c' d' : Value) : Prop where
  left : Five w P a b c d
  right : Five w Q a' b' c' d'
  lp : P < w.heap.size
  lq : Q < w.heap.size
theorem Two.below {w w' : World} {P Q : Nat} {a b c d a' b' c' d' : Value} (h : Two w P Q a b c d a' b' c' d') (hb : Below w.heap.size w w') : Two w' P Q a b c d a' b' c' d' := ⟨h.left.below h.lp hb, h.right.below h.lq hb, Nat.lt_of_lt_of_le h.lp hb.size, Nat.lt_of_lt_of_le h.lq hb.size⟩
theorem Two.drew {w : World} {P Q : Nat} {a b c d a' b' c' d' : Value} (h : Two w P Q a b c d a' b' c' d') : Two w.drew P Q a b c d a' b' c' d' := h.below (Below.refl _ w).drew
theorem five_new (w : World) (a b c d : Value) (t : TypeId) : Five (w.alloc (.cells #[a, b, c, d] t)) w.heap.size a b c d :=
  ⟨by rw [blk_cell (new_blk _ _)]; rfl, by rw [blk_cell (new_blk _ _)]; rfl, by rw [blk_cell (new_blk _ _)]; rfl, by rw [blk_cell (new_blk _ _)]; rfl⟩
theorem Two.mk1 {w : World} {P : Nat} {a b c d a' b' c' d' : Value} (h : Five w P a b c d) (hl : P < w.heap.size) (t : TypeId) (x : Unit) : Two (w.alloc (.cells #[a', b', c', d'] t)) P w.heap.size a b c d a' b' c' d' :=
  ⟨h.below hl ((Below.refl _ w).alloc (Nat.le_refl _) _), five_new _ _ _ _ _ _, by simp; omega, by simp⟩
theorem Two.mk2 (w : World) {a b c d a' b' c' d' : Value} (t u : TypeId) : Two ((w.alloc (.cells #[a, b, c, d] t)).alloc (.cells #[a', b', c', d'] u)) w.heap.size (w.heap.size + 1) a b c d a' b' c' d' := by
  have h := Two.mk1 (a' := a') (b' := b') (c' := c') (d' := d') (five_new w a b c d t) (by simp) u ()
  simpa using h
set_option maxRecDepth 100000 in
set_option maxHeartbeats 4000000 in
theorem walkSame (g h : DeskD) (v1 v2 v3 u1 u2 u3 : Value) (w : World) (kg : Ok g) (kh : Ok h) (h1 : At w 0 v1 v2 v3 g) (h2 : At w 0 u1 u2 u3 h) :
    Calls Try.prog 3 #[.agg #[v1, v2, .int .i64 g.eng.now, v3], .agg #[u1, u2, .int .i64 h.eng.now, u3]] w fun e w' => e = .returned (.bool true) ∧ Below w.heap.size w w' := by
  have HZ1 := hid (fun n w' (h0 : 0 ≤ n) (hn : n ≤ 1048576) (hb : Below w.heap.size w w') => sz 0 g v1 v2 v3 n w' h0 hn kg (h1.below hb))
  have HZ2 := hid (fun n w' (h0 : 0 ≤ n) (hn : n ≤ 1048576) (hb : Below w.heap.size w w') => sz 0 h u1 u2 u3 n w' h0 hn kh (h2.below hb))
  obtain ⟨⟨a1, c1, rfl⟩, ⟨a2, c2, rfl⟩, a3, c3, rfl⟩ := h1.slices
  obtain ⟨⟨b1, d1, rfl⟩, ⟨b2, d2, rfl⟩, b3, d3, rfl⟩ := h2.slices
  have H1 := hid h1
  have H2 := hid h2
  have HB0 : Hid (Below w.heap.size w ((w.alloc (.cells #[.slice a1 g.eng.procs.length c1, .slice a2 g.eng.insts.length c2, .int .i64 g.eng.now, .slice a3 g.claims.length c3] 28)).alloc (.cells #[.slice b1 h.eng.procs.length d1, .slice b2 h.eng.insts.length d2, .int .i64 h.eng.now, .slice b3 h.claims.length d3] 28))) := hid (((Below.refl _ w).alloc (Nat.le_refl _) _).alloc (by simp) _)
  have HT0 : Hid (Two ((w.alloc (.cells #[.slice a1 g.eng.procs.length c1, .slice a2 g.eng.insts.length c2, .int .i64 g.eng.now, .slice a3 g.claims.length c3] 28)).alloc (.cells #[.slice b1 h.eng.procs.length d1, .slice b2 h.eng.insts.length d2, .int .i64 h.eng.now, .slice b3 h.claims.length d3] 28)) w.heap.size (w.heap.size + 1) (.slice a1 g.eng.procs.length c1) (.slice a2 g.eng.insts.length c2) (.int .i64 g.eng.now) (.slice a3 g.claims.length c3) (.slice b1 h.eng.procs.length d1) (.slice b2 h.eng.insts.length d2) (.int .i64 h.eng.now) (.slice b3 h.claims.length d3)) := hid (Two.mk2 _ _ _)
  clear h1 h2 kg kh
  go_enter Try.func3, Try.ntmps3
  go_wp2_with fail
  generalize (w.alloc (.cells #[.slice a1 g.eng.procs.length c1, .slice a2 g.eng.insts.length c2, .int .i64 g.eng.now, .slice a3 g.claims.length c3] 28)).alloc (.cells #[.slice b1 h.eng.procs.length d1, .slice b2 h.eng.insts.length d2, .int .i64 h.eng.now, .slice b3 h.claims.length d3] 28) = w0 at *
  refine (HZ1.out 1048576 _ (by omega) (by omega) HB0.out).mono ?_
  rintro e w1 ⟨⟨r1, rfl, r1a, r1b, r1c⟩, hb1⟩
  have HB1 := hid (HB0.out.trans (hb1.mono HB0.out.size))
  by_cases q1 : r1 < 0
  · clear hb1
    go_wp2
    go_ret
    exact ⟨rfl, HB1.out⟩
  have S1 := hid (r1c (by omega))
  have HT1 := hid (HT0.out.below hb1)
  obtain ⟨⟨k0, k1, k2, k3⟩, ⟨n0, n1, n2, n3⟩, lp, lq⟩ := HT1.out
  clear r1c HZ1 hb1
  go_wp2_with fail
  refine (HZ2.out r1 _ (by omega) (by omega) HB1.out).mono ?_
  rintro e w2 ⟨⟨r2, rfl, r2a, r2b, r2c⟩, hb2⟩
  have HB2 := hid (HB1.out.trans (hb2.mono HB1.out.size))
  have HT2 := hid (HT1.out.below hb2)
  clear hb2
  by_cases q2 : r2 < 0
  · clear k0 k1 k2 k3 n0 n1 n2 n3 lp lq
    go_wp2
    go_ret
    exact ⟨rfl, HB2.out⟩
  have S2 := hid ((r2c (by omega)).more r1b)
  clear r2c HZ2 k0 k1 k2 k3 n0 n1 n2 n3 lp lq
  obtain ⟨⟨k0, k1, k2, k3⟩, ⟨n0, n1, n2, n3⟩, lp, lq⟩ := HT2.out
  have HC1 := hid (fun w' (hb : Below w.heap.size w w') => to1 0 g _ _ _ w' S1.out (H1.out.below hb))
  have HC2 := hid (fun w' (hb : Below w.heap.size w w') => to1 0 h _ _ _ w' S2.out (H2.out.below hb))
  have hB2d := HB2.out.drew
  have HT2d : Hid (Two w2.drew w.heap.size (w.heap.size + 1) (.slice a1 g.eng.procs.length c1) (.slice a2 g.eng.insts.length c2) (.int .i64 g.eng.now) (.slice a3 g.claims.length c3) (.slice b1 h.eng.procs.length d1) (.slice b2 h.eng.insts.length d2) (.int .i64 h.eng.now) (.slice b3 h.claims.length d3)) := hid HT2.out.drew
  clear H1 H2
  go_wp2
  refine wp_region_held_drew (S := fun wx => Two wx w.heap.size (w.heap.size + 1) (.slice a1 g.eng.procs.length c1) (.slice a2 g.eng.insts.length c2) (.int .i64 g.eng.now) (.slice a3 g.claims.length c3) (.slice b1 h.eng.procs.length d1) (.slice b2 h.eng.insts.length d2) (.int .i64 h.eng.now) (.slice b3 h.claims.length d3)) (by kernel_rfl) HT2d.out (fun hHeld => ?_)
  refine wpAnyH_take (i := 0) (oi := { dst := some 20, op := Go.Op.load 28 (Go.Operand.tmp 2), type := 28, pos := "exact.go:5508", after := #[], guard := none }) (v := .agg #[.slice a1 g.eng.procs.length c1, .slice a2 g.eng.insts.length c2, .int .i64 g.eng.now, .slice a3 g.claims.length c3]) rfl (by kernel_rfl) (by kernel_rfl) (by kernel_rfl) (fun _ _ _ h => h) (Or.inl ⟨by rfl, by intro w hSw; (try dsimp only at hSw); obtain ⟨⟨s0, s1, s2⟩, ⟨t0, t1, t2⟩, z1, z2⟩ := hSw; go_simp⟩) (by assumption) ?_
  simp only [Act.put, List.setIfInBounds_toArray, List.set_cons_zero, List.set_cons_succ]
  refine wpAnyH_take (i := 2) (oi := { dst := some 22, op := Go.Op.load 28 (Go.Operand.tmp 3), type := 28, pos := "exact.go:5508", after := #[], guard := none }) (v := .agg #[.slice b1 h.eng.procs.length d1, .slice b2 h.eng.insts.length d2, .int .i64 h.eng.now, .slice b3 h.claims.length d3]) rfl (by kernel_rfl) (by kernel_rfl) (by kernel_rfl) (fun _ _ _ h => h) (Or.inl ⟨by rfl, by intro w hSw; (try dsimp only at hSw); obtain ⟨⟨s0, s1, s2⟩, ⟨t0, t1, t2⟩, z1, z2⟩ := hSw; go_simp⟩) (by assumption) ?_
  simp only [Act.put, List.setIfInBounds_toArray, List.set_cons_zero, List.set_cons_succ]
  refine wpAnyH_ready (rs := [1]) (by kernel_rfl) (by simp) ?_
  refine AllReadyH.cons (o := { dst := some 21, op := Go.Op.call { callee := Go.Callee.value (Go.Operand.func 6), args := #[Go.Operand.tmp 20], argTypes := #[28] }, type := 37, pos := "exact.go:5508", after := #[{ on := 0, ground := Go.Ground.data }], guard := none }) rfl (fun K hK => ?_) AllReadyH.nil
  go_simp
  go_at_call 6
  refine (HC1.out _ hB2d).mono ?_
  rintro e w3 ⟨p1, p2, p3, rfl, hu, hb3⟩
  obtain ⟨⟨x1, y1, rfl⟩, ⟨x2, y2, rfl⟩, x3, y3, rfl⟩ := hu.slices
  have HU := hid hu
  have hB3 := hB2d.trans (hb3.mono hB2d.size)
  have HT3 := hid (HT2d.out.below hb3)
  clear hu hb3
  go_wp2_with fail
  refine hK.out _ _ HT3.out (fun hHeld => ?_)
  clear hK K
  try simp only [Act.put, List.setIfInBounds_toArray, List.set_cons_zero, List.set_cons_succ]
  refine wpAnyH_ready (rs := [3]) (by kernel_rfl) (by simp) ?_
  refine AllReadyH.cons (o := { dst := some 23, op := Go.Op.call { callee := Go.Callee.value (Go.Operand.func 6), args := #[Go.Operand.tmp 22], argTypes := #[28] }, type := 37, pos := "exact.go:5508", after := #[{ on := 2, ground := Go.Ground.data }, { on := 1, ground := Go.Ground.chain }], guard := none }) rfl (fun K hK => ?_) AllReadyH.nil
  go_simp
  go_at_call 6
  refine (HC2.out _ hB3).mono ?_
  rintro e w4 ⟨p1, p2, p3, rfl, hv, hb4⟩
  obtain ⟨⟨z1, t1, rfl⟩, ⟨z2, t2, rfl⟩, z3, t3, rfl⟩ := hv.slices
  have HC3 := hid (specSame _ _ g h _ _ _ _ _ _ _ S1.out S2.out (HU.out.below hb4) hv)
  have hB4 := hB3.trans (hb4.mono hB3.size)
  have HT4 := hid (HT3.out.below hb4)
  clear hv hb4
  go_wp2_with fail
  refine hK.out _ _ HT4.out (fun hHeld => ?_)
  clear hK K
  try simp only [Act.put, List.setIfInBounds_toArray, List.set_cons_zero, List.set_cons_succ]
  refine wpAnyH_ready (rs := [4]) (by kernel_rfl) (by simp) ?_
  refine AllReadyH.cons (o := { dst := some 24, op := Go.Op.call { callee := Go.Callee.value (Go.Operand.func 5), args := #[Go.Operand.tmp 21, Go.Operand.tmp 23], argTypes := #[37, 37] }, type := 4, pos := "exact.go:5508", after := #[{ on := 1, ground := Go.Ground.data }, { on := 3, ground := Go.Ground.data }, { on := 3, ground := Go.Ground.chain }], guard := none }) rfl (fun K hK => ?_) AllReadyH.nil
  go_simp
  go_at_call 5
  refine HC3.out.mono ?_
  rintro e w5 ⟨rfl, hb5⟩
  have hB5 := hB4.trans (hb5.mono hB4.size)
  have HT5 := hid (HT4.out.below hb5)
  clear hb5
  go_wp2_with fail
  refine hK.out _ _ HT5.out (fun hHeld => ?_)
  clear hK K
  try simp only [Act.put, List.setIfInBounds_toArray, List.set_cons_zero, List.set_cons_succ]
  refine wpAnyH_take (i := 5) (oi := { dst := some 6, op := Go.Op.assign (Go.Operand.tmp 24), type := 4, pos := "exact.go:5508", after := #[{ on := 4, ground := Go.Ground.data }, { on := 4, ground := Go.Ground.chain }, { on := 0, ground := Go.Ground.phase }, { on := 1, ground := Go.Ground.phase }, { on := 2, ground := Go.Ground.phase }, { on := 3, ground := Go.Ground.phase }, { on := 4, ground := Go.Ground.phase }], guard := none }) (v := .bool (same g h)) rfl (by kernel_rfl) (by kernel_rfl) (by kernel_rfl) (fun _ _ _ h => h) (Or.inl ⟨by rfl, by intro w hSw; (try dsimp only at hSw); obtain ⟨⟨s0, s1, s2⟩, ⟨t0, t1, t2⟩, z1, z2⟩ := hSw; go_simp⟩) (by assumption) ?_
  simp only [Act.put, List.setIfInBounds_toArray, List.set_cons_zero, List.set_cons_succ]
  refine wpAnyH_done (by kernel_rfl) ?_ _
  clear hHeld HT2d HT0 HT1 HT2 HT3 HT4 HC3 HU hB3 hB4 hB2d HB0 HB1 HB2 k0 k1 k2 k3 n0 n1 n2 n3 lp lq
  obtain ⟨⟨k0, k1, k2, k3⟩, ⟨n0, n1, n2, n3⟩, lp, lq⟩ := HT5.out
  go_wp2_with fail
  refine (HC1.out _ hB5).mono ?_
  rintro e w6 ⟨p1, p2, p3, rfl, hu, hb6⟩
  obtain ⟨⟨x1, y1, rfl⟩, ⟨x2, y2, rfl⟩, x3, y3, rfl⟩ := hu.slices
  have HU := hid hu
  have HB6 := hid (hB5.trans (hb6.mono hB5.size))
  have HT6 := hid (HT5.out.below hb6)
  clear hu hb6 k0 k1 k2 k3 n0 n1 n2 n3 lp lq
  obtain ⟨⟨k0, k1, k2, k3⟩, ⟨n0, n1, n2, n3⟩, lp, lq⟩ := HT6.out
  go_wp2_with fail
  have HB7 : Hid (Below w.heap.size w (w6.alloc (.cells #[.slice x1 g.eng.procs.length y1, .slice x2 g.eng.insts.length y2, .int .i64 g.eng.now, .slice x3 g.claims.length y3] 37))) := hid (HB6.out.alloc HB6.out.size _)
  have HBa : Hid (Below w6.heap.size w6 (w6.alloc (.cells #[.slice x1 g.eng.procs.length y1, .slice x2 g.eng.insts.length y2, .int .i64 g.eng.now, .slice x3 g.claims.length y3] 37))) := hid ((Below.refl _ w6).alloc (Nat.le_refl _) _)
  have HTa : Hid (Two (w6.alloc (.cells #[.slice x1 g.eng.procs.length y1, .slice x2 g.eng.insts.length y2, .int .i64 g.eng.now, .slice x3 g.claims.length y3] 37)) w.heap.size w6.heap.size (.slice a1 g.eng.procs.length c1) (.slice a2 g.eng.insts.length c2) (.int .i64 g.eng.now) (.slice a3 g.claims.length c3) (.slice x1 g.eng.procs.length y1) (.slice x2 g.eng.insts.length y2) (.int .i64 g.eng.now) (.slice x3 g.claims.length y3)) := hid (Two.mk1 HT6.out.left HT6.out.lp _ ())
  have HTb := hid (HT6.out.below HBa.out)
  have HUa := hid (HU.out.below HBa.out)
  clear HU HBa HT6 HT5 hB5 HB6 k0 k1 k2 k3 n0 n1 n2 n3 lp lq
  generalize w6.alloc (.cells #[.slice x1 g.eng.procs.length y1, .slice x2 g.eng.insts.length y2, .int .i64 g.eng.now, .slice x3 g.claims.length y3] 37) = w6a at *
  refine (HC2.out _ HB7.out).mono ?_
  rintro e w7 ⟨p1, p2, p3, rfl, hv, hb7⟩
  obtain ⟨⟨z1, t1, rfl⟩, ⟨z2, t2, rfl⟩, z3, t3, rfl⟩ := hv.slices
  have HBb : Hid (Below w7.heap.size w7 (w7.alloc (.cells #[.slice z1 h.eng.procs.length t1, .slice z2 h.eng.insts.length t2, .int .i64 h.eng.now, .slice z3 h.claims.length t3] 37))) := hid ((Below.refl _ w7).alloc (Nat.le_refl _) _)
  have HB8 : Hid (Below w.heap.size w (w7.alloc (.cells #[.slice z1 h.eng.procs.length t1, .slice z2 h.eng.insts.length t2, .int .i64 h.eng.now, .slice z3 h.claims.length t3] 37))) := hid ((HB7.out.trans (hb7.mono HB7.out.size)).alloc (HB7.out.trans (hb7.mono HB7.out.size)).size _)
  have HTc := hid ((HTa.out.below hb7).below HBb.out)
  have HTe := hid (HTb.out.below hb7)
  have HTd : Hid (Two (w7.alloc (.cells #[.slice z1 h.eng.procs.length t1, .slice z2 h.eng.insts.length t2, .int .i64 h.eng.now, .slice z3 h.claims.length t3] 37)) (w.heap.size + 1) w7.heap.size (.slice b1 h.eng.procs.length d1) (.slice b2 h.eng.insts.length d2) (.int .i64 h.eng.now) (.slice b3 h.claims.length d3) (.slice z1 h.eng.procs.length t1) (.slice z2 h.eng.insts.length t2) (.int .i64 h.eng.now) (.slice z3 h.claims.length t3)) := hid (Two.mk1 HTe.out.right HTe.out.lq _ ())
  have HUb := hid ((HUa.out.below hb7).below HBb.out)
  have HVb := hid (hv.below HBb.out)
  obtain ⟨_, ⟨k0, k1, k2, k3⟩, _, lp⟩ := HTc.out
  obtain ⟨_, ⟨n0, n1, n2, n3⟩, _, lq⟩ := HTd.out
  clear HUa hv hb7 HTa HTb HTe HB7 HBb
  go_wp2_with fail
  generalize w7.alloc (.cells #[.slice z1 h.eng.procs.length t1, .slice z2 h.eng.insts.length t2, .int .i64 h.eng.now, .slice z3 h.claims.length t3] 37) = w7a at *
  refine (implSame _ _ g h _ _ _ _ _ _ _ S1.out S2.out HUb.out HVb.out).mono ?_
  rintro e w8 ⟨rfl, hb8⟩
  have hs : (same g h != same g h) = false := by simp
  have HB9 := hid (HB8.out.trans (hb8.mono HB8.out.size))
  have HT8 := hid (HTc.out.below hb8)
  have HT9 := hid (HTd.out.below hb8)
  have HU8 := hid (HUb.out.below hb8)
  have HV8 := hid (HVb.out.below hb8)
  clear HTc HTd HB8 hb8 HUb HVb k0 k1 k2 k3 n0 n1 n2 n3 lp lq
  have HT8d : Hid (Two w8.drew w.heap.size w6.heap.size (.slice a1 g.eng.procs.length c1) (.slice a2 g.eng.insts.length c2) (.int .i64 g.eng.now) (.slice a3 g.claims.length c3) (.slice x1 g.eng.procs.length y1) (.slice x2 g.eng.insts.length y2) (.int .i64 g.eng.now) (.slice x3 g.claims.length y3)) := hid HT8.out.drew
  have hB9d := HB9.out.drew
  have HU8d := hid (HU8.out.below (Below.refl _ w8).drew)
  go_wp2
  refine wp_region_held_drew (S := fun wx => Two wx w.heap.size w6.heap.size (.slice a1 g.eng.procs.length c1) (.slice a2 g.eng.insts.length c2) (.int .i64 g.eng.now) (.slice a3 g.claims.length c3) (.slice x1 g.eng.procs.length y1) (.slice x2 g.eng.insts.length y2) (.int .i64 g.eng.now) (.slice x3 g.claims.length y3)) (by kernel_rfl) HT8d.out (fun hHeld => ?_)
  refine wpAnyH_take (i := 0) (oi := { dst := some 35, op := Go.Op.load 37 (Go.Operand.tmp 7), type := 37, pos := "exact.go:5515", after := #[], guard := none }) (v := .agg #[.slice x1 g.eng.procs.length y1, .slice x2 g.eng.insts.length y2, .int .i64 g.eng.now, .slice x3 g.claims.length y3]) rfl (by kernel_rfl) (by kernel_rfl) (by kernel_rfl) (fun _ _ _ h => h) (Or.inl ⟨by rfl, by intro w hSw; (try dsimp only at hSw); obtain ⟨⟨s0, s1, s2⟩, ⟨t0, t1, t2⟩, z1, z2⟩ := hSw; go_simp⟩) (by assumption) ?_
  simp only [Act.put, List.setIfInBounds_toArray, List.set_cons_zero, List.set_cons_succ]
  refine wpAnyH_take (i := 1) (oi := { dst := some 36, op := Go.Op.load 28 (Go.Operand.tmp 2), type := 28, pos := "exact.go:5515", after := #[], guard := none }) (v := .agg #[.slice a1 g.eng.procs.length c1, .slice a2 g.eng.insts.length c2, .int .i64 g.eng.now, .slice a3 g.claims.length c3]) rfl (by kernel_rfl) (by kernel_rfl) (by kernel_rfl) (fun _ _ _ h => h) (Or.inl ⟨by rfl, by intro w hSw; (try dsimp only at hSw); obtain ⟨⟨s0, s1, s2⟩, ⟨t0, t1, t2⟩, z1, z2⟩ := hSw; go_simp⟩) (by assumption) ?_
  simp only [Act.put, List.setIfInBounds_toArray, List.set_cons_zero, List.set_cons_succ]
  refine wpAnyH_ready (rs := [2]) (by kernel_rfl) (by simp) ?_
  refine AllReadyH.cons (o := { dst := some 37, op := Go.Op.call { callee := Go.Callee.value (Go.Operand.func 6), args := #[Go.Operand.tmp 36], argTypes := #[28] }, type := 37, pos := "exact.go:5515", after := #[{ on := 1, ground := Go.Ground.data }], guard := none }) rfl (fun K hK => ?_) AllReadyH.nil
  go_simp
  go_at_call 6
  refine (HC1.out _ hB9d).mono ?_
  rintro e w9 ⟨p1, p2, p3, rfl, hu, hb9⟩
  obtain ⟨⟨m1, n1, rfl⟩, ⟨m2, n2, rfl⟩, m3, n3, rfl⟩ := hu.slices
  have HC5 := hid (eq _ _ g _ _ _ _ _ _ _ S1.out (HU8d.out.below hb9) hu)
  have hB9 := hB9d.trans (hb9.mono hB9d.size)
  have hBm : Below w8.heap.size w8 w9 := (Below.refl _ w8).drew.trans hb9
  have HTm := hid (HT8d.out.below hb9)
  clear hu hb9
  go_wp2_with fail
  refine hK.out _ _ HTm.out (fun hHeld => ?_)
  clear hK K
  try simp only [Act.put, List.setIfInBounds_toArray, List.set_cons_zero, List.set_cons_succ]
  refine wpAnyH_ready (rs := [3]) (by kernel_rfl) (by simp) ?_
  refine AllReadyH.cons (o := { dst := some 38, op := Go.Op.call { callee := Go.Callee.value (Go.Operand.func 8), args := #[Go.Operand.tmp 35, Go.Operand.tmp 37], argTypes := #[37, 37] }, type := 4, pos := "exact.go:5515", after := #[{ on := 0, ground := Go.Ground.data }, { on := 2, ground := Go.Ground.data }, { on := 2, ground := Go.Ground.chain }], guard := none }) rfl (fun K hK => ?_) AllReadyH.nil
  go_simp
  go_at_call 8
  refine HC5.out.mono ?_
  rintro e w10 ⟨rfl, hb10⟩
  have hB10 := hB9.trans (hb10.mono hB9.size)
  have hBn := hBm.trans (hb10.mono hBm.size)
  have HTn := hid (HTm.out.below hb10)
  clear hb10 hBm HC5
  go_wp2_with fail
  refine hK.out _ _ HTn.out (fun hHeld => ?_)
  clear hK K
  try simp only [Act.put, List.setIfInBounds_toArray, List.set_cons_zero, List.set_cons_succ]
  refine wpAnyH_take (i := 4) (oi := { dst := some 39, op := Go.Op.unOp Go.UnOp.not 4 (Go.Operand.tmp 38), type := 4, pos := "exact.go:5515", after := #[{ on := 3, ground := Go.Ground.data }], guard := none }) (v := .bool false) rfl (by kernel_rfl) (by kernel_rfl) (by kernel_rfl) (fun _ _ _ h => h) (Or.inl ⟨by rfl, by intro w hSw; (try dsimp only at hSw); obtain ⟨⟨s0, s1, s2⟩, ⟨t0, t1, t2⟩, z1, z2⟩ := hSw; go_simp⟩) (by assumption) ?_
  simp only [Act.put, List.setIfInBounds_toArray, List.set_cons_zero, List.set_cons_succ]
  refine wpAnyH_done (by kernel_rfl) ?_ _
  have HT9b := hid (HT9.out.below hBn)
  have HV9 := hid (HV8.out.below hBn)
  clear HT9 HV8 HU8 HU8d HT8d HT8 hB9d
  have HT9d : Hid (Two w10.drew (w.heap.size + 1) w7.heap.size (.slice b1 h.eng.procs.length d1) (.slice b2 h.eng.insts.length d2) (.int .i64 h.eng.now) (.slice b3 h.claims.length d3) (.slice z1 h.eng.procs.length t1) (.slice z2 h.eng.insts.length t2) (.int .i64 h.eng.now) (.slice z3 h.claims.length t3)) := hid HT9b.out.drew
  have hB10d := hB10.drew
  have HV9d := hid (HV9.out.below (Below.refl _ w10).drew)
  go_wp2
  refine wp_region_held_drew (S := fun wx => Two wx (w.heap.size + 1) w7.heap.size (.slice b1 h.eng.procs.length d1) (.slice b2 h.eng.insts.length d2) (.int .i64 h.eng.now) (.slice b3 h.claims.length d3) (.slice z1 h.eng.procs.length t1) (.slice z2 h.eng.insts.length t2) (.int .i64 h.eng.now) (.slice z3 h.claims.length t3)) (by kernel_rfl) HT9d.out (fun hHeld => ?_)
  refine wpAnyH_take (i := 0) (oi := { dst := some 40, op := Go.Op.load 37 (Go.Operand.tmp 8), type := 37, pos := "exact.go:5518", after := #[], guard := none }) (v := .agg #[.slice z1 h.eng.procs.length t1, .slice z2 h.eng.insts.length t2, .int .i64 h.eng.now, .slice z3 h.claims.length t3]) rfl (by kernel_rfl) (by kernel_rfl) (by kernel_rfl) (fun _ _ _ h => h) (Or.inl ⟨by rfl, by intro w hSw; (try dsimp only at hSw); obtain ⟨⟨s0, s1, s2⟩, ⟨t0, t1, t2⟩, z1, z2⟩ := hSw; go_simp⟩) (by assumption) ?_
  simp only [Act.put, List.setIfInBounds_toArray, List.set_cons_zero, List.set_cons_succ]
  refine wpAnyH_take (i := 1) (oi := { dst := some 41, op := Go.Op.load 28 (Go.Operand.tmp 3), type := 28, pos := "exact.go:5518", after := #[], guard := none }) (v := .agg #[.slice b1 h.eng.procs.length d1, .slice b2 h.eng.insts.length d2, .int .i64 h.eng.now, .slice b3 h.claims.length d3]) rfl (by kernel_rfl) (by kernel_rfl) (by kernel_rfl) (fun _ _ _ h => h) (Or.inl ⟨by rfl, by intro w hSw; (try dsimp only at hSw); obtain ⟨⟨s0, s1, s2⟩, ⟨t0, t1, t2⟩, z1, z2⟩ := hSw; go_simp⟩) (by assumption) ?_
  simp only [Act.put, List.setIfInBounds_toArray, List.set_cons_zero, List.set_cons_succ]
  refine wpAnyH_ready (rs := [2]) (by kernel_rfl) (by simp) ?_
  refine AllReadyH.cons (o := { dst := some 42, op := Go.Op.call { callee := Go.Callee.value (Go.Operand.func 6), args := #[Go.Operand.tmp 41], argTypes := #[28] }, type := 37, pos := "exact.go:5518", after := #[{ on := 1, ground := Go.Ground.data }], guard := none }) rfl (fun K hK => ?_) AllReadyH.nil
  go_simp
  go_at_call 6
  refine (HC2.out _ hB10d).mono ?_
  rintro e w11 ⟨p1, p2, p3, rfl, hu, hb9⟩
  obtain ⟨⟨i1, j1, rfl⟩, ⟨i2, j2, rfl⟩, i3, j3, rfl⟩ := hu.slices
  have HC5 := hid (eq _ _ h _ _ _ _ _ _ _ S2.out (HV9d.out.below hb9) hu)
  have hB11 := hB10d.trans (hb9.mono hB10d.size)
  have HTo := hid (HT9d.out.below hb9)
  clear hu hb9
  go_wp2_with fail
  refine hK.out _ _ HTo.out (fun hHeld => ?_)
  clear hK K
  try simp only [Act.put, List.setIfInBounds_toArray, List.set_cons_zero, List.set_cons_succ]
  refine wpAnyH_ready (rs := [3]) (by kernel_rfl) (by simp) ?_
  refine AllReadyH.cons (o := { dst := some 43, op := Go.Op.call { callee := Go.Callee.value (Go.Operand.func 8), args := #[Go.Operand.tmp 40, Go.Operand.tmp 42], argTypes := #[37, 37] }, type := 4, pos := "exact.go:5518", after := #[{ on := 0, ground := Go.Ground.data }, { on := 2, ground := Go.Ground.data }, { on := 2, ground := Go.Ground.chain }], guard := none }) rfl (fun K hK => ?_) AllReadyH.nil
  go_simp
  go_at_call 8
  refine HC5.out.mono ?_
  rintro e w12 ⟨rfl, hb10⟩
  have hB12 := hB11.trans (hb10.mono hB11.size)
  have HTp := hid (HTo.out.below hb10)
  clear hb10 HC5
  go_wp2_with fail
  refine hK.out _ _ HTp.out (fun hHeld => ?_)
  clear hK K
  try simp only [Act.put, List.setIfInBounds_toArray, List.set_cons_zero, List.set_cons_succ]
  refine wpAnyH_take (i := 4) (oi := { dst := some 44, op := Go.Op.unOp Go.UnOp.not 4 (Go.Operand.tmp 43), type := 4, pos := "exact.go:5518", after := #[{ on := 3, ground := Go.Ground.data }], guard := none }) (v := .bool false) rfl (by kernel_rfl) (by kernel_rfl) (by kernel_rfl) (fun _ _ _ h => h) (Or.inl ⟨by rfl, by intro w hSw; (try dsimp only at hSw); obtain ⟨⟨s0, s1, s2⟩, ⟨t0, t1, t2⟩, z1, z2⟩ := hSw; go_simp⟩) (by assumption) ?_
  simp only [Act.put, List.setIfInBounds_toArray, List.set_cons_zero, List.set_cons_succ]
  refine wpAnyH_done (by kernel_rfl) ?_ _
  go_wp2
  go_ret
  exact ⟨rfl, hB12⟩
theorem own : ownKnob Try.prog.godebug = none := by kernel_rfl
theorem laidOut : laidOutB Try.prog = true := by kernel_rfl
set_option maxRecDepth 100000 in
theorem lifted (os : Os) (started : os.Started) (H : Type) (enc : TypeId × Value → H) :
    ReturnsInHanded {} Try.checked os 3 .any (Rows.fnExactSameDesksSpec.pre6 enc Try.prog Try.f3 Rows.fnExactSameDesksRow.domain false) (Rows.fnExactSameDesksSpec.post enc Try.prog Try.f3 false true false false) := by
  refine returnsInHanded_of_change (C := Try.checked) own started (by kernel_rfl) Try.func3
    (ChangeSpec.witness6 (enc := enc) (C := Try.checked) false ⟨#[], #[.agg #[.slice none 0 0, .slice none 0 0, .int .i64 0, .slice none 0 0], .agg #[.slice none 0 0, .slice none 0 0, .int .i64 0, .slice none 0 0]], []⟩ 8 (by kernel_rfl) (by kernel_rfl) (by kernel_rfl) (by kernel_rfl)) ?_
  intro W base args ds gs before hval0 hW hcnd _
  have hval : ∀ (j : Nat) t v, Try.f3.params[j]? = some t → args[j]? = some v → Value.okWide Try.prog W .any base t v := hval0
  have hW' := hW
  obtain ⟨p, q, hA0, hV, rfl, hfz, hnd⟩ := hW
  have hA : DataW.TrodAll enc Try.prog W 0 (fun _ => true) true Try.f3.params.toList args.toList ds p := hA0
  rw [Try.params3] at hA hval
  obtain ⟨v0, vs0, d0, ds0, p0, q0, hargs, rfl, rfl, h0, r0⟩ := trodAll_cons hA
  obtain ⟨v1, vs1, d1, ds1, p1, q1, rfl, rfl, rfl, h1, r1⟩ := trodAll_cons r0
  obtain ⟨rfl, rfl, rfl⟩ := trodAll_nil r1
  obtain rfl : args = #[v0, v1] := by cases args; simp_all
  obtain ⟨rfl, rfl⟩ := trodVars_none hV
  obtain ⟨cs0, rfl, _⟩ := okWide_struct Try.underlying28 (hval 0 28 v0 rfl rfl)
  have k0 := h0
  have lt0 : ∀ x ∈ p0, x.block < W.heap.size := by obtain ⟨m, hm⟩ := k0; exact DataW.trod_lt m _ _ _ hm
  obtain ⟨g0, n0, f0, m0, hc0, ga0, gk0⟩ : ∃ (g : Dk.DeskD) (vp vi vc : Value), cs0.toList = [vp, vi, .int .i64 g.eng.now, vc] ∧ Dk.At W 0 vp vi vc g ∧ Dk.Ok g := by
    obtain ⟨fuel, hf⟩ := h0
    exact Dk.open_all (by simpa [Value.cells] using hf)
  obtain rfl : cs0 = #[n0, f0, .int .i64 g0.eng.now, m0] := by cases cs0; simp_all
  obtain ⟨cs1, rfl, _⟩ := okWide_struct Try.underlying28 (hval 1 28 v1 rfl rfl)
  have k1 := h1
  have lt1 : ∀ x ∈ p1, x.block < W.heap.size := by obtain ⟨m, hm⟩ := k1; exact DataW.trod_lt m _ _ _ hm
  obtain ⟨g1, n1, f1, m1, hc1, ga1, gk1⟩ : ∃ (g : Dk.DeskD) (vp vi vc : Value), cs1.toList = [vp, vi, .int .i64 g.eng.now, vc] ∧ Dk.At W 0 vp vi vc g ∧ Dk.Ok g := by
    obtain ⟨fuel, hf⟩ := h1
    exact Dk.open_all (by simpa [Value.cells] using hf)
  obtain rfl : cs1 = #[n1, f1, .int .i64 g1.eng.now, m1] := by cases cs1; simp_all
  clear hA0 hval0
  refine (walkSame g0 g1 _ _ _ _ _ _ W gk0 gk1 ga0 ga1).mono fun e W' ⟨he, bel⟩ => ?_
  subst he
  exact ⟨_, rfl, _, _, _, [], _, [], hW', trodAll_mk1 (shut_bool Try.underlying4 _), (trodAll_cons_mk (Below.trod laidOut (by kernel_rfl) (of_decide_eq_true (by kernel_rfl)) k0 bel lt0) (trodAll_cons_mk (Below.trod laidOut (by kernel_rfl) (of_decide_eq_true (by kernel_rfl)) k1 bel lt1) trodAll_mk0)), rfl, bel.frame _, fun h => by cases h⟩
theorem over : Rows.fnExactSameDesksRow.holds Try.pinned (OpenSpec.ofChange Rows.fnExactSameDesksSpec) :=
  OpenClaim.holds_of_wide 3 Try.f3 rfl rfl rfl rfl rfl rfl rfl ⟨rfl, rfl, rfl, rfl, rfl⟩ rfl rfl rfl rfl rfl (by kernel_rfl) Try.func3 (by kernel_rfl)
    (of_decide_eq_true (by kernel_rfl)) (by unfold Func.isWrapper; first | (rw [if_pos (by decide +kernel)]; kernel_rfl) | (rw [if_neg (by decide +kernel)]; exact ⟨rfl, rfl⟩))
    (fun os started H enc _ => lifted os started H enc)
end Dk
theorem fnExactSameDesks_holds : Rows.FnExactSameDesksSaid := Dk.over
#print axioms fnExactSameDesks_holds
end Go.Proofs.Ytpninlangjfcfaa
