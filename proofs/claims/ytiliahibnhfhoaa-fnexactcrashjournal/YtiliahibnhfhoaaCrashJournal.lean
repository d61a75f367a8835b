/- Whatever is handed in, CrashJournal answers as the specification's CrashJournal does, the journal reads afterwards as before, and what it answers is its own. No condition. -/
import Derived.Test.YtiliahibnhfhoaaRows
import Derived.ShutString
import Derived.ChangeOld
import Derived.ProofKit
import Derived.OpenShut
import Derived.Deep.RegionHeld3
import Derived.Test.YtiliahibnhfhoaaJnO
import Derived.Test.YtiliahibnhfhoaaJbB
import Derived.Test.YtiliahibnhfhoaaJaS
import Derived.Test.YtiliahibnhfhoaaJaI
namespace Go.Proofs.Ytiliahibnhfhoaa
open Go.ChangeShapes Go.WideShapes Go.ChangeAt Go.RowKit
open Go.ChangeMaps (open_string shut_string)
set_option linter.unusedVariables false
namespace CrL
open Jn
theorem of_kC {s l : List UInt8} {k : Int} (h : kC s l k = 0) : jF s l = 0 := by
  unfold kC at h
  by_cases h1 : jF s l = 0
  · exact h1
  · rw [if_neg h1] at h; exact absurd h h1
theorem len_s {s l : List UInt8} {k : Int} : (okL (kC s l k) (cutL s l k)).length ≤ 1048576 := by
  unfold okL
  split
  · rename_i h
    have := of_jF (of_kC h)
    unfold cutL
    rw [List.length_take, List.length_append, List.length_take]
    omega
  · simp
theorem len_l {c : Int} : (okL c []).length ≤ 1048576 := by
  unfold okL
  split <;> simp
set_option maxRecDepth 100000 in
set_option maxHeartbeats 16000000 in
theorem walk (s l : List UInt8) (k : Int) (v1 v2 : Value) (w : World) (hls : s.length ≤ maxLen) (hll : l.length ≤ maxLen) (ha1 : At w w.heap.size v1 s) (ha2 : At w w.heap.size v2 l) :
    Calls Try.prog 9 #[.agg #[v1, v2], .int .i64 k] w fun e w' => e = .returned (.bool true) ∧ Below w.heap.size w w' := by
  obtain ⟨a1, c1, rfl, _⟩ := ha1.slice
  obtain ⟨a2, c2, rfl, _⟩ := ha2.slice
  have H1 := hid ha1
  have H2 := hid ha2
  unfold maxLen at hls hll
  have HSZ := hid (fun w' => szJ a1 a2 s.length c1 l.length c2 w' (by omega) (by omega))
  have I0 := hid (Inw.start w #[.slice a1 s.length c1, .slice a2 l.length c2] 41)
  clear ha1 ha2 hls hll
  have HSP0 := hid (fun hs hl v1 v2 w' h1 h2 => specCrash w'.heap.size s l k v1 v2 w' hs hl (Nat.le_refl _) h1 h2)
  have HIM0 := hid (fun hs hl v1 v2 w' h1 h2 => implCrash w'.heap.size s l k v1 v2 w' hs hl (Nat.le_refl _) h1 h2)
  have hS : (okL (kC s l k) (cutL s l k)).length ≤ 1048576 := len_s
  have hL : (okL (kC s l k) []).length ≤ 1048576 := len_l
  unfold CRPost JPost at HSP0 HIM0
  generalize okN (kC s l k) (countN (cutL s l k) []) = kn at *
  generalize okL (kC s l k) (cutL s l k) = sp at *
  generalize okL (kC s l k) [] = lp at *
  generalize kC s l k = kc at *
  have HEJ := hid (fun x1 x2 y1 y2 w' h1 h2 h3 h4 => eqJR kc (kn : Int) sp lp x1 x2 y1 y2 w' hS hL h1 h2 h3 h4)
  have HMJ := hid (fun B v1 v2 w' h => markJR kc (kn : Int) B v1 v2 sp lp w' hS hL h)
  have HHJ := hid (fun B v1 v2 w' h => heldJR kc (kn : Int) B v1 v2 sp.length lp.length w' hS hL h)
  have q2 : ¬ 1 + (sp.length : Int) + (lp.length : Int) < 0 := by omega
  have q3 : (1 + (sp.length : Int) + (lp.length : Int) != 1 + (sp.length : Int) + (lp.length : Int)) = false := by simp
  have q4 : ¬ 1 + (s.length : Int) + (l.length : Int) < 0 := by omega
  go_enter Try.func9, Try.ntmps9
  go_wp2_with fail
  refine (HSZ.out _).mono ?_
  rintro e w1 ⟨⟨r, rfl, hr⟩, hb1⟩
  have I1 := hid (I0.out.below hb1)
  have lw1 : w.heap.size < w1.heap.size := by have := hb1.size; simp at this; omega
  clear I0 hb1 HSZ
  by_cases q : r < 0
  · go_wp2
    go_ret
    exact ⟨rfl, I1.out.st⟩
  have hsl := hr (by omega)
  have hs : s.length ≤ 1048576 := by omega
  have hl : l.length ≤ 1048576 := by omega
  clear hr hsl
  have HTO := hid (fun w' (hb : Below w.heap.size w w') => toJ w.heap.size s l _ _ w' hs hl hb.size (H1.out.below hb (Nat.le_refl _)) (H2.out.below hb (Nat.le_refl _)))
  have HSP := hid (HSP0.out hs hl)
  have HIM := hid (HIM0.out hs hl)
  have HEQ := hid (fun x1 x2 y1 y2 w' h1 h2 h3 h4 => eqJ s l x1 x2 y1 y2 w' hs hl h1 h2 h3 h4)
  have HMU := hid (fun B v1 v2 w' h => markJ B v1 v2 s l w' hs hl h)
  have p0 := blk_cell (I1.out.b _ (List.mem_singleton.2 rfl)) (o := 0) (v := .slice a1 s.length c1) rfl
  have p1 := blk_cell (I1.out.b _ (List.mem_singleton.2 rfl)) (o := 1) (v := .slice a2 l.length c2) rfl
  clear HSP0 HIM0
  go_wp2_with fail
  refine (HTO.out _ I1.out.st).mono ?_
  rintro e w9 ⟨z1, n1, z2, n2, rfl, hjo, hb9⟩
  have I9 := hid (I1.out.below hb9)
  have HJO := hid hjo
  have l9 := hb9.size
  clear I1 hb9 hjo p0 p1
  go_wp2_with fail
  refine (HSP.out _ _ _ HJO.out.o1.at HJO.out.o2.at).mono ?_
  rintro e w2 ⟨d1, e1, d2, e2, rfl, hjw, hb2⟩
  have RW1 := hid (fun b h => hjw.o1.lt b h)
  have RW2 := hid (fun b h => hjw.o2.lt b h)
  have l2 := hb2.size
  have I2 := hid (((I9.out.below hb2).new (P' := fun x => Jo x 0 (.slice d1 sp.length e1) (.slice d2 lp.length e2) sp lp) (hjw.mono (Nat.zero_le _)) (fun x y h hb => h.below hb (Nat.le_refl _))).add #[.int .i64 kc, .int .i64 (kn : Int), .slice d1 sp.length e1, .slice d2 lp.length e2] 49)
  clear I9 hb2 HJO hjw
  have p0 := blk_cell (I2.out.b _ (List.mem_cons_of_mem _ (List.mem_singleton.2 rfl))) (o := 0) (v := .slice a1 s.length c1) rfl
  have p1 := blk_cell (I2.out.b _ (List.mem_cons_of_mem _ (List.mem_singleton.2 rfl))) (o := 1) (v := .slice a2 l.length c2) rfl
  go_wp2_with fail
  refine (HTO.out _ I2.out.st).mono ?_
  rintro e w3 ⟨x1, k1, x2, k2, rfl, hju, hb3⟩
  have RU1 := hid (fun b h => hju.o1.lt b h)
  have RU2 := hid (fun b h => hju.o2.lt b h)
  have l3 := hb3.size
  simp only [World.size_alloc] at l3 RU1 RU2
  have I3 := hid (((I2.out.below hb3).new (P' := fun x => Jo x 0 (.slice d1 sp.length e1) (.slice d2 lp.length e2) sp lp ∧ Jo x 0 (.slice x1 s.length k1) (.slice x2 l.length k2) s l) ⟨(I2.out.below hb3).p, hju.mono (Nat.zero_le _)⟩ (fun x y h hb => ⟨h.1.below hb (Nat.le_refl _), h.2.below hb (Nat.le_refl _)⟩)).add #[.slice x1 s.length k1, .slice x2 l.length k2] 44)
  clear I2 hb3 hju p0 p1
  have u0 := blk_cell (I3.out.b _ (List.mem_cons_self ..)) (o := 0) (v := .slice x1 s.length k1) rfl
  have u1 := blk_cell (I3.out.b _ (List.mem_cons_self ..)) (o := 1) (v := .slice x2 l.length k2) rfl
  go_wp2_with fail
  refine (HIM.out _ _ _ I3.out.p.2.o1.at I3.out.p.2.o2.at).mono ?_
  rintro e w4 ⟨y1, m1, y2, m2, rfl, hjg, hb4⟩
  have RG1 := hid (fun b h => hjg.o1.lt b h)
  have RG2 := hid (fun b h => hjg.o2.lt b h)
  have l4 := hb4.size
  simp only [World.size_alloc] at l4 RG1 RG2
  have I4 : Jn.Hid (Inw w (w4.alloc (.cells #[.int .i64 kc, .int .i64 (kn : Int), .slice y1 sp.length m1, .slice y2 lp.length m2] 49)) [(w4.heap.size, #[.int .i64 kc, .int .i64 (kn : Int), .slice y1 sp.length m1, .slice y2 lp.length m2], 49), (w3.heap.size, #[.slice x1 s.length k1, .slice x2 l.length k2], 44), (w2.heap.size, #[.int .i64 kc, .int .i64 (kn : Int), .slice d1 sp.length e1, .slice d2 lp.length e2], 49), (w.heap.size, #[.slice a1 s.length c1, .slice a2 l.length c2], 41)] (fun x => Jo x 0 (.slice d1 sp.length e1) (.slice d2 lp.length e2) sp lp ∧ Jo x 0 (.slice x1 s.length k1) (.slice x2 l.length k2) s l ∧ Jo x 0 (.slice y1 sp.length m1) (.slice y2 lp.length m2) sp lp)) := hid (((I3.out.below hb4).new ⟨(I3.out.below hb4).p.1, (I3.out.below hb4).p.2, hjg.mono (Nat.zero_le _)⟩ (fun x y h hb => ⟨h.1.below hb (Nat.le_refl _), h.2.1.below hb (Nat.le_refl _), h.2.2.below hb (Nat.le_refl _)⟩)).add _ _)
  clear I3 hb4 hjg u0 u1
  have g0 := blk_cell (I4.out.b _ (List.mem_cons_self ..)) (o := 0) (v := .int .i64 kc) rfl
  have g1 := blk_cell (I4.out.b _ (List.mem_cons_self ..)) (o := 1) (v := .int .i64 (kn : Int)) rfl
  have g2 := blk_cell (I4.out.b _ (List.mem_cons_self ..)) (o := 2) (v := .slice y1 sp.length m1) rfl
  have g3 := blk_cell (I4.out.b _ (List.mem_cons_self ..)) (o := 3) (v := .slice y2 lp.length m2) rfl
  have v0 := blk_cell (I4.out.b _ (List.mem_cons_of_mem _ (List.mem_cons_of_mem _ (List.mem_cons_self ..)))) (o := 0) (v := .int .i64 kc) rfl
  have v1 := blk_cell (I4.out.b _ (List.mem_cons_of_mem _ (List.mem_cons_of_mem _ (List.mem_cons_self ..)))) (o := 1) (v := .int .i64 (kn : Int)) rfl
  have v2 := blk_cell (I4.out.b _ (List.mem_cons_of_mem _ (List.mem_cons_of_mem _ (List.mem_cons_self ..)))) (o := 2) (v := .slice d1 sp.length e1) rfl
  have v3 := blk_cell (I4.out.b _ (List.mem_cons_of_mem _ (List.mem_cons_of_mem _ (List.mem_cons_self ..)))) (o := 3) (v := .slice d2 lp.length e2) rfl
  go_wp2_with fail
  refine (HEJ.out _ _ _ _ _ I4.out.p.2.2.o1.at I4.out.p.2.2.o2.at I4.out.p.1.o1.at I4.out.p.1.o2.at).mono ?_
  rintro e w6 ⟨rfl, hb6⟩
  have I6 := hid (I4.out.below hb6)
  clear g0 g1 g2 g3 v0 v1 v2 v3
  clear I4 hb6
  have u0 := blk_cell (I6.out.b _ (List.mem_cons_of_mem _ (List.mem_cons_self ..))) (o := 0) (v := .slice x1 s.length k1) rfl
  have u1 := blk_cell (I6.out.b _ (List.mem_cons_of_mem _ (List.mem_cons_self ..))) (o := 1) (v := .slice x2 l.length k2) rfl
  have p0 := blk_cell (I6.out.b _ (List.mem_cons_of_mem _ (List.mem_cons_of_mem _ (List.mem_cons_of_mem _ (List.mem_cons_self ..))))) (o := 0) (v := .slice a1 s.length c1) rfl
  have p1 := blk_cell (I6.out.b _ (List.mem_cons_of_mem _ (List.mem_cons_of_mem _ (List.mem_cons_of_mem _ (List.mem_cons_self ..))))) (o := 1) (v := .slice a2 l.length c2) rfl
  have hn5 := blk_lt (I6.out.b _ (List.mem_cons_of_mem _ (List.mem_cons_self ..)))
  have hn0 := blk_lt (I6.out.b _ (List.mem_cons_of_mem _ (List.mem_cons_of_mem _ (List.mem_cons_of_mem _ (List.mem_cons_self ..)))))
  dsimp only at hn5 hn0
  have hbd : Below w6.heap.size w6 w6.drew := (Below.refl _ w6).drew
  go_wp2_with fail
  refine wp_region_held_drew (S := fun wx => Below w6.heap.size w6 wx) (by kernel_rfl) hbd (fun hHeld => ?_)
  refine wpAnyH_take (i := 0) (oi := { dst := some 31, op := Go.Op.load 44 (Go.Operand.tmp 7), type := 44, pos := "exact.go:5203", after := #[], guard := none }) (v := .agg #[.slice x1 s.length k1, .slice x2 l.length k2]) rfl (by kernel_rfl) (by kernel_rfl) (by kernel_rfl) (fun _ _ _ h => h) (Or.inl ⟨by rfl, by intro w hSw; (try dsimp only at hSw); have ca := kept_cell hSw hn5 u0; have cb := kept_cell hSw hn5 u1; go_simp⟩) (by assumption) ?_
  simp only [Act.put, List.setIfInBounds_toArray, List.set_cons_zero, List.set_cons_succ]
  refine wpAnyH_take (i := 1) (oi := { dst := some 32, op := Go.Op.load 41 (Go.Operand.tmp 2), type := 41, pos := "exact.go:5203", after := #[], guard := none }) (v := .agg #[.slice a1 s.length c1, .slice a2 l.length c2]) rfl (by kernel_rfl) (by kernel_rfl) (by kernel_rfl) (fun _ _ _ h => h) (Or.inl ⟨by rfl, by intro w hSw; (try dsimp only at hSw); have ca := kept_cell hSw hn0 p0; have cb := kept_cell hSw hn0 p1; go_simp⟩) (by assumption) ?_
  simp only [Act.put, List.setIfInBounds_toArray, List.set_cons_zero, List.set_cons_succ]
  refine wpAnyH_ready (rs := [2]) (by kernel_rfl) (by simp) ?_
  refine AllReadyH.cons (o := { dst := some 33, op := Go.Op.call { callee := Go.Callee.value (Go.Operand.func 30), args := #[Go.Operand.tmp 32], argTypes := #[41] }, type := 44, pos := "exact.go:5203", after := #[{ on := 1, ground := Go.Ground.data }], guard := none }) rfl (fun K hK => ?_) AllReadyH.nil
  go_simp
  go_at_call 30
  refine (HTO.out _ (I6.out.below hbd).st).mono ?_
  rintro z w7 ⟨z1, n1, z2, n2, rfl, hjo, hb7⟩
  have hbb : Below w6.heap.size w6 w7 := hbd.trans (hb7.mono hbd.size)
  have HJO := hid hjo
  clear hjo hb7
  go_wp2_with fail
  refine hK.out _ _ hbb (fun hHeld => ?_)
  clear hK K
  try simp only [Act.put, List.setIfInBounds_toArray, List.set_cons_zero, List.set_cons_succ]
  refine wpAnyH_ready (rs := [3]) (by kernel_rfl) (by simp) ?_
  refine AllReadyH.cons (o := { dst := some 34, op := Go.Op.call { callee := Go.Callee.value (Go.Operand.func 32), args := #[Go.Operand.tmp 31, Go.Operand.tmp 33], argTypes := #[44, 44] }, type := 4, pos := "exact.go:5203", after := #[{ on := 0, ground := Go.Ground.data }, { on := 2, ground := Go.Ground.data }, { on := 2, ground := Go.Ground.chain }], guard := none }) rfl (fun K hK => ?_) AllReadyH.nil
  go_simp
  go_at_call 32
  refine (HEQ.out _ _ _ _ _ (I6.out.below hbb).p.2.1.o1.at (I6.out.below hbb).p.2.1.o2.at HJO.out.o1.at HJO.out.o2.at).mono ?_
  rintro z w8 ⟨rfl, hb8⟩
  have hbc : Below w6.heap.size w6 w8 := hbb.trans (hb8.mono hbb.size)
  clear hb8
  go_wp2_with fail
  refine hK.out _ _ hbc (fun hHeld => ?_)
  clear hK K
  try simp only [Act.put, List.setIfInBounds_toArray, List.set_cons_zero, List.set_cons_succ]
  refine wpAnyH_take (i := 4) (oi := { dst := some 35, op := Go.Op.unOp Go.UnOp.not 4 (Go.Operand.tmp 34), type := 4, pos := "exact.go:5203", after := #[{ on := 3, ground := Go.Ground.data }], guard := none }) (v := .bool false) rfl (by kernel_rfl) (by kernel_rfl) (by kernel_rfl) (fun _ _ _ h => h) (Or.inl ⟨by rfl, by intro w hSw; (try dsimp only at hSw); go_simp⟩) (by assumption) ?_
  simp only [Act.put, List.setIfInBounds_toArray, List.set_cons_zero, List.set_cons_succ]
  refine wpAnyH_done (by kernel_rfl) ?_ _
  have I8 := hid (I6.out.below hbc)
  clear I6 hbb hbd hbc u0 u1 p0 p1 hn5 hn0 HJO hHeld
  have u0 := blk_cell (I8.out.b _ (List.mem_cons_of_mem _ (List.mem_cons_self ..))) (o := 0) (v := .slice x1 s.length k1) rfl
  have u1 := blk_cell (I8.out.b _ (List.mem_cons_of_mem _ (List.mem_cons_self ..))) (o := 1) (v := .slice x2 l.length k2) rfl
  go_wp2_with fail
  refine (HMU.out _ _ _ _ I8.out.p.2.1).mono ?_
  rintro e w10 ⟨rfl, hju, htw⟩
  have I10 : Jn.Hid (Inw w w10 [(w4.heap.size, #[.int .i64 kc, .int .i64 (kn : Int), .slice y1 sp.length m1, .slice y2 lp.length m2], 49), (w3.heap.size, #[.slice x1 s.length k1, .slice x2 l.length k2], 44), (w2.heap.size, #[.int .i64 kc, .int .i64 (kn : Int), .slice d1 sp.length e1, .slice d2 lp.length e2], 49), (w.heap.size, #[.slice a1 s.length c1, .slice a2 l.length c2], 41)] (fun x => Jo x 0 (.slice d1 sp.length e1) (.slice d2 lp.length e2) sp lp ∧ Jo x 0 (.slice y1 sp.length m1) (.slice y2 lp.length m2) sp lp)) := hid (I8.out.two htw
    (fun b hb => ⟨by have := RU1.out b hb; omega, by have := RU1.out b hb; exact (fun p hp => by simp only [List.mem_cons, List.not_mem_nil, or_false] at hp; rcases hp with rfl | rfl | rfl | rfl <;> dsimp only <;> omega)⟩) (fun b hb => ⟨by have := RU2.out b hb; omega, by have := RU2.out b hb; exact (fun p hp => by simp only [List.mem_cons, List.not_mem_nil, or_false] at hp; rcases hp with rfl | rfl | rfl | rfl <;> dsimp only <;> omega)⟩)
    ⟨I8.out.p.1.two htw (fun b e f => by have := RW1.out b e; have := RU1.out b f; omega) (fun b e f => by have := RW1.out b e; have := RU2.out b f; omega) (fun b e f => by have := RW2.out b e; have := RU1.out b f; omega) (fun b e f => by have := RW2.out b e; have := RU2.out b f; omega),
     I8.out.p.2.2.two htw (fun b e f => by have := RG1.out b e; have := RU1.out b f; omega) (fun b e f => by have := RG1.out b e; have := RU2.out b f; omega) (fun b e f => by have := RG2.out b e; have := RU1.out b f; omega) (fun b e f => by have := RG2.out b e; have := RU2.out b f; omega)⟩
    (fun x y h hb => ⟨h.1.below hb (Nat.le_refl _), h.2.below hb (Nat.le_refl _)⟩))
  clear I8 hju htw u0 u1
  have g0 := blk_cell (I10.out.b _ (List.mem_cons_self ..)) (o := 0) (v := .int .i64 kc) rfl
  have g1 := blk_cell (I10.out.b _ (List.mem_cons_self ..)) (o := 1) (v := .int .i64 (kn : Int)) rfl
  have g2 := blk_cell (I10.out.b _ (List.mem_cons_self ..)) (o := 2) (v := .slice y1 sp.length m1) rfl
  have g3 := blk_cell (I10.out.b _ (List.mem_cons_self ..)) (o := 3) (v := .slice y2 lp.length m2) rfl
  have v0 := blk_cell (I10.out.b _ (List.mem_cons_of_mem _ (List.mem_cons_of_mem _ (List.mem_cons_self ..)))) (o := 0) (v := .int .i64 kc) rfl
  have v1 := blk_cell (I10.out.b _ (List.mem_cons_of_mem _ (List.mem_cons_of_mem _ (List.mem_cons_self ..)))) (o := 1) (v := .int .i64 (kn : Int)) rfl
  have v2 := blk_cell (I10.out.b _ (List.mem_cons_of_mem _ (List.mem_cons_of_mem _ (List.mem_cons_self ..)))) (o := 2) (v := .slice d1 sp.length e1) rfl
  have v3 := blk_cell (I10.out.b _ (List.mem_cons_of_mem _ (List.mem_cons_of_mem _ (List.mem_cons_self ..)))) (o := 3) (v := .slice d2 lp.length e2) rfl
  go_wp2_with fail
  refine (HEJ.out _ _ _ _ _ I10.out.p.2.o1.at I10.out.p.2.o2.at I10.out.p.1.o1.at I10.out.p.1.o2.at).mono ?_
  rintro e w11 ⟨rfl, hb11⟩
  have I11 := hid (I10.out.below hb11)
  clear g0 g1 g2 g3 v0 v1 v2 v3
  clear I10 hb11
  have g0 := blk_cell (I11.out.b _ (List.mem_cons_self ..)) (o := 0) (v := .int .i64 kc) rfl
  have g1 := blk_cell (I11.out.b _ (List.mem_cons_self ..)) (o := 1) (v := .int .i64 (kn : Int)) rfl
  have g2 := blk_cell (I11.out.b _ (List.mem_cons_self ..)) (o := 2) (v := .slice y1 sp.length m1) rfl
  have g3 := blk_cell (I11.out.b _ (List.mem_cons_self ..)) (o := 3) (v := .slice y2 lp.length m2) rfl
  go_wp2_with fail
  refine (HMJ.out _ _ _ _ I11.out.p.2).mono ?_
  rintro e w12 ⟨rfl, hjg, htw⟩
  have I12 : Jn.Hid (Inw w w12 [(w4.heap.size, #[.int .i64 kc, .int .i64 (kn : Int), .slice y1 sp.length m1, .slice y2 lp.length m2], 49), (w3.heap.size, #[.slice x1 s.length k1, .slice x2 l.length k2], 44), (w2.heap.size, #[.int .i64 kc, .int .i64 (kn : Int), .slice d1 sp.length e1, .slice d2 lp.length e2], 49), (w.heap.size, #[.slice a1 s.length c1, .slice a2 l.length c2], 41)] (fun x => Jo x 0 (.slice d1 sp.length e1) (.slice d2 lp.length e2) sp lp ∧ Jo x 0 (.slice y1 sp.length m1) (.slice y2 lp.length m2) (marksF 1 sp.length) (marksF (1 + sp.length) lp.length))) := hid (I11.out.two htw
    (fun b hb => ⟨by have := RG1.out b hb; omega, by have := RG1.out b hb; exact (fun p hp => by simp only [List.mem_cons, List.not_mem_nil, or_false] at hp; rcases hp with rfl | rfl | rfl | rfl <;> dsimp only <;> omega)⟩) (fun b hb => ⟨by have := RG2.out b hb; omega, by have := RG2.out b hb; exact (fun p hp => by simp only [List.mem_cons, List.not_mem_nil, or_false] at hp; rcases hp with rfl | rfl | rfl | rfl <;> dsimp only <;> omega)⟩)
    ⟨I11.out.p.1.two htw (fun b e f => by have := RW1.out b e; have := RG1.out b f; omega) (fun b e f => by have := RW1.out b e; have := RG2.out b f; omega) (fun b e f => by have := RW2.out b e; have := RG1.out b f; omega) (fun b e f => by have := RW2.out b e; have := RG2.out b f; omega), hjg⟩
    (fun x y h hb => ⟨h.1.below hb (Nat.le_refl _), h.2.below hb (Nat.le_refl _)⟩))
  clear I11 hjg htw g0 g1 g2 g3
  have g0 := blk_cell (I12.out.b _ (List.mem_cons_self ..)) (o := 0) (v := .int .i64 kc) rfl
  have g1 := blk_cell (I12.out.b _ (List.mem_cons_self ..)) (o := 1) (v := .int .i64 (kn : Int)) rfl
  have g2 := blk_cell (I12.out.b _ (List.mem_cons_self ..)) (o := 2) (v := .slice y1 sp.length m1) rfl
  have g3 := blk_cell (I12.out.b _ (List.mem_cons_self ..)) (o := 3) (v := .slice y2 lp.length m2) rfl
  go_wp2_with fail
  refine (HHJ.out _ _ _ _ I12.out.p.2).mono ?_
  rintro e w13 ⟨rfl, hb13⟩
  have I13 := hid (I12.out.below hb13)
  clear I12 hb13 g0 g1 g2 g3
  have p0 := blk_cell (I13.out.b _ (List.mem_cons_of_mem _ (List.mem_cons_of_mem _ (List.mem_cons_of_mem _ (List.mem_cons_self ..))))) (o := 0) (v := .slice a1 s.length c1) rfl
  have p1 := blk_cell (I13.out.b _ (List.mem_cons_of_mem _ (List.mem_cons_of_mem _ (List.mem_cons_of_mem _ (List.mem_cons_self ..))))) (o := 1) (v := .slice a2 l.length c2) rfl
  go_wp2_with fail
  refine (HTO.out _ I13.out.st).mono ?_
  rintro e w14 ⟨z3, n3, z4, n4, rfl, hjo, hb14⟩
  have I14 := hid (I13.out.below hb14)
  have HJO2 := hid hjo
  clear I13 hb14 hjo p0 p1
  go_wp2_with fail
  refine (HIM.out _ _ _ HJO2.out.o1.at HJO2.out.o2.at).mono ?_
  rintro e w15 ⟨t1, j1, t2, j2, rfl, hjh, hb15⟩
  have hA : Below w15.heap.size w15 (w15.alloc (.cells #[.int .i64 kc, .int .i64 (kn : Int), .slice t1 sp.length j1, .slice t2 lp.length j2] 49)) := (Below.refl w15.heap.size w15).alloc (Nat.le_refl _) _
  have I15 := hid ((I14.out.below hb15).below hA)
  have J15 := hid (hjh.below hA (Nat.le_refl _))
  clear I14 hb15 hA hjh HJO2
  have v0 := blk_cell (I15.out.b _ (List.mem_cons_of_mem _ (List.mem_cons_of_mem _ (List.mem_cons_self ..)))) (o := 0) (v := .int .i64 kc) rfl
  have v1 := blk_cell (I15.out.b _ (List.mem_cons_of_mem _ (List.mem_cons_of_mem _ (List.mem_cons_self ..)))) (o := 1) (v := .int .i64 (kn : Int)) rfl
  have v2 := blk_cell (I15.out.b _ (List.mem_cons_of_mem _ (List.mem_cons_of_mem _ (List.mem_cons_self ..)))) (o := 2) (v := .slice d1 sp.length e1) rfl
  have v3 := blk_cell (I15.out.b _ (List.mem_cons_of_mem _ (List.mem_cons_of_mem _ (List.mem_cons_self ..)))) (o := 3) (v := .slice d2 lp.length e2) rfl
  go_wp2_with fail
  refine (HEJ.out _ _ _ _ _ J15.out.o1.at J15.out.o2.at I15.out.p.1.o1.at I15.out.p.1.o2.at).mono ?_
  rintro e w16 ⟨rfl, hb16⟩
  have I16 := hid (I15.out.below hb16)
  clear I15 hb16 J15 v0 v1 v2 v3
  have g0 := blk_cell (I16.out.b _ (List.mem_cons_self ..)) (o := 0) (v := .int .i64 kc) rfl
  have g1 := blk_cell (I16.out.b _ (List.mem_cons_self ..)) (o := 1) (v := .int .i64 (kn : Int)) rfl
  have g2 := blk_cell (I16.out.b _ (List.mem_cons_self ..)) (o := 2) (v := .slice y1 sp.length m1) rfl
  have g3 := blk_cell (I16.out.b _ (List.mem_cons_self ..)) (o := 3) (v := .slice y2 lp.length m2) rfl
  go_wp2_with fail
  refine (HHJ.out _ _ _ _ I16.out.p.2).mono ?_
  rintro e w17 ⟨rfl, hb17⟩
  have I17 := hid (I16.out.below hb17)
  clear I16 hb17
  go_wp2
  go_ret
  exact ⟨rfl, I17.out.st⟩
theorem own : ownKnob Try.prog.godebug = none := by kernel_rfl
theorem laidOut : laidOutB Try.prog = true := by kernel_rfl
set_option maxRecDepth 100000 in
theorem lifted (os : Os) (started : os.Started) (H : Type) (enc : TypeId × Value → H) :
    ReturnsInHanded {} Try.checked os 9 .any (Rows.fnExactCrashJournalSpec.pre6 enc Try.prog Try.f9 Rows.fnExactCrashJournalRow.domain false) (Rows.fnExactCrashJournalSpec.post enc Try.prog Try.f9 false true false false) := by
  refine returnsInHanded_of_change (C := Try.checked) own started (by kernel_rfl) Try.func9
    (ChangeSpec.witness6 (enc := enc) (C := Try.checked) false ⟨#[], #[.agg #[.slice none 0 0, .slice none 0 0], .int .i64 0], []⟩ 8 (by kernel_rfl) (by kernel_rfl) (by kernel_rfl) (by kernel_rfl)) ?_
  intro W base args ds gs before hval0 hW hcnd _
  have hval : ∀ (j : Nat) t v, Try.f9.params[j]? = some t → args[j]? = some v → Value.okWide Try.prog W .any base t v := hval0
  have hW' := hW
  obtain ⟨p, q, hA0, hV, rfl, hfz, hnd⟩ := hW
  have hA : DataW.TrodAll enc Try.prog W 0 (fun _ => true) true Try.f9.params.toList args.toList ds p := hA0
  rw [Try.params9] at hA hval
  obtain ⟨v0, vs0, d0, ds0, p0, q0, hargs, rfl, rfl, h0, r0⟩ := trodAll_cons hA
  obtain ⟨v1, vs1, d1, ds1, p1, q1, rfl, rfl, rfl, h1, r1⟩ := trodAll_cons r0
  obtain ⟨rfl, rfl, rfl⟩ := trodAll_nil r1
  obtain rfl : args = #[v0, v1] := by cases args; simp_all
  obtain ⟨rfl, rfl⟩ := trodVars_none hV
  obtain ⟨cs0, rfl, _⟩ := okWide_struct Try.underlying41 (hval 0 41 v0 rfl rfl)
  have k0 := h0
  have lt0 : ∀ x ∈ p0, x.block < W.heap.size := by obtain ⟨m, hm⟩ := k0; exact DataW.trod_lt m _ _ _ hm
  obtain ⟨l0, m0, n0, f0, hc0, ga0, gb0, gk0, gl0⟩ : ∃ (l1 l2 : List UInt8) (v1 v2 : Value), cs0.toList = [v1, v2] ∧ Jn.At W W.heap.size v1 l1 ∧ Jn.At W W.heap.size v2 l2 ∧ l1.length ≤ maxLen ∧ l2.length ≤ maxLen := by
    obtain ⟨fuel, hf⟩ := h0
    exact Jn.open_journal (by simpa [Value.cells] using hf)
  obtain rfl : cs0 = #[n0, f0] := by cases cs0; simp_all
  obtain ⟨x1, rfl, rfl, rfl, wx1⟩ := open_int Try.underlying2 (hval 1 2 v1 rfl rfl) h1
  clear hA0 hval0
  refine (walk l0 m0 x1 _ _ W gk0 gl0 ga0 gb0).mono fun e W' ⟨he, bel⟩ => ?_
  subst he
  exact ⟨_, rfl, _, _, _, [], _, [], hW', trodAll_mk1 (shut_bool Try.underlying4 _), (trodAll_cons_mk (Below.trod laidOut (by kernel_rfl) (of_decide_eq_true (by kernel_rfl)) k0 bel lt0) (trodAll_cons_mk (shut_int Try.underlying2 wx1) trodAll_mk0)), rfl, bel.frame _, fun h => by cases h⟩
theorem over : Rows.fnExactCrashJournalRow.holds Try.pinned (OpenSpec.ofChange Rows.fnExactCrashJournalSpec) :=
  OpenClaim.holds_of_wide 9 Try.f9 rfl rfl rfl rfl rfl rfl rfl ⟨rfl, rfl, rfl, rfl, rfl⟩ rfl rfl rfl rfl rfl (by kernel_rfl) Try.func9 (by kernel_rfl)
    (of_decide_eq_true (by kernel_rfl)) (by unfold Func.isWrapper; first | (rw [if_pos (by decide +kernel)]; kernel_rfl) | (rw [if_neg (by decide +kernel)]; exact ⟨rfl, rfl⟩))
    (fun os started H enc _ => lifted os started H enc)
end CrL
theorem fnExactCrashJournal_holds : Rows.FnExactCrashJournalSaid := CrL.over
#print axioms fnExactCrashJournal_holds
end Go.Proofs.Ytiliahibnhfhoaa
