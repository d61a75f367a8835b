/- Whatever code of bytes is handed in, the law FnAppends answers true: what is appended is there behind the rest, and what is synced is sure; the bytes handed in read afterwards as before. No condition. -/
import Derived.Test.YtiliahibnhfhoaaRows
import Derived.ShutString
import Derived.ChangeOld
import Derived.ProofKit
import Derived.OpenShut
import Derived.Deep.RegionHeld3
import Derived.Test.YtiliahibnhfhoaaDrO
import Derived.Test.YtiliahibnhfhoaaJtB
import Derived.Test.YtiliahibnhfhoaaJtC
import Derived.Test.YtiliahibnhfhoaaJdG
import Derived.Test.YtiliahibnhfhoaaJaJ
namespace Go.Proofs.Ytiliahibnhfhoaa
open Go.ChangeShapes Go.WideShapes Go.ChangeAt Go.RowKit
open Go.ChangeMaps (open_string shut_string)
set_option linter.unusedVariables false
namespace FaL
open Jn
set_option maxRecDepth 100000 in
set_option maxHeartbeats 16000000 in
theorem walk (a : Option Addr) (len cap : Nat) (w : World) (hl : len ≤ maxLen) (hc : Drw.CodeAt w.heap.size w a len) :
    Calls Try.prog 12 #[.slice a len cap] w fun e w' => e = .returned (.bool true) ∧ Below w.heap.size w w' := by
  have HC := hid hc
  clear hc
  by_cases q0 : (1048576 : Int) < (len : Int)
  · go_enter Try.func12, Try.ntmps12
    go_wp2_with (go_at_call 43; refine (Drw.big a len cap _).mono ?_; rintro e w9 ⟨rfl, hw9⟩; replace hw9 := hw9.symm; subst hw9)
    go_ret
    exact ⟨rfl, Below.refl _ _⟩
  have hln : len ≤ 1048576 := by omega
  go_enter Try.func12, Try.ntmps12
  go_wp2_with (go_at_call 43; refine (Drw.big a len cap _).mono ?_; rintro e w9 ⟨rfl, hw9⟩; replace hw9 := hw9.symm; subst hw9)
  refine (appendD len cap a _ hln HC.out).mono ?_
  rintro e w1 ⟨s, l, x, x1, k1, x2, k2, rfl, hj, hs, hl1, hx, hb1⟩
  have I0 : Jn.Hid (Inw w w1 [] (fun x => Jo x 0 (.slice x1 s.length k1) (.slice x2 l.length k2) s l)) := hid ⟨hb1, (fun p hp => by cases hp), hj.mono (Nat.zero_le _), (fun x y h hb => h.below hb (Nat.le_refl _))⟩
  have I1 := hid (I0.out.add #[.slice x1 s.length k1, .slice x2 l.length k2] 44)
  have HIM := hid (fun v1 v2 w' h1 h2 => implAppend w'.heap.size s l x v1 v2 w' (by omega) (by omega) (by omega) (Nat.le_refl _) h1 h2)
  have HSP := hid (fun v1 v2 w' h1 h2 => specAppend w'.heap.size s l x v1 v2 w' (by omega) (by omega) (by omega) (Nat.le_refl _) h1 h2)
  have HT : Jn.Hid (aC s l x = 0 → okN (aC s l x) (countN s (l ++ packL x)) = countN s (l ++ packL x) ∧ AppF s l x (okL (aC s l x) s) (okL (aC s l x) (l ++ packL x))) := hid (fun h => ⟨(ok_so h _ []).1, by rw [(ok_so h 0 s).2, (ok_so h 0 (l ++ packL x)).2]; exact appended h⟩)
  have HT2 : Jn.Hid (aC s l x = 0 → okL (aC s l x) s = s ∧ okL (aC s l x) (l ++ packL x) = l ++ packL x) := hid (fun h => ⟨(ok_so h 0 s).2, (ok_so h 0 (l ++ packL x)).2⟩)
  clear I0 hb1 hj
  unfold APPost JPost at HIM HSP
  generalize okN (aC s l x) (countN s (l ++ packL x)) = kn at *
  generalize okL (aC s l x) s = sp at *
  generalize okL (aC s l x) (l ++ packL x) = lp at *
  generalize aC s l x = kc at *
  obtain ⟨sx, hsx⟩ : ∃ sx, sx = str x := ⟨_, rfl⟩
  rw [← hsx] at HIM HSP
  rw [← hsx]
  have HSX := hid hsx
  clear hsx
  have j0 := blk_cell (I1.out.b _ (List.mem_cons_self ..)) (o := 0) (v := .slice x1 s.length k1) rfl
  have j1 := blk_cell (I1.out.b _ (List.mem_cons_self ..)) (o := 1) (v := .slice x2 l.length k2) rfl
  go_wp2_with fail
  refine (HIM.out _ _ _ I1.out.p.o1.at I1.out.p.o2.at).mono ?_
  rintro e w3 ⟨y1, m1, y2, m2, rfl, hjc, hb3⟩
  have I2 : Jn.Hid (Inw w (w3.alloc (.cells #[.int .i64 kc, .int .i64 (kn : Int), .slice y1 sp.length m1, .slice y2 lp.length m2] 49)) [(w3.heap.size, #[.int .i64 kc, .int .i64 (kn : Int), .slice y1 sp.length m1, .slice y2 lp.length m2], 49), (w1.heap.size, #[.slice x1 s.length k1, .slice x2 l.length k2], 44)] (fun x => Jo x 0 (.slice x1 s.length k1) (.slice x2 l.length k2) s l ∧ Jo x 0 (.slice y1 sp.length m1) (.slice y2 lp.length m2) sp lp)) := hid (((I1.out.below hb3).new ⟨(I1.out.below hb3).p, hjc.mono (Nat.zero_le _)⟩ (fun x y h hb => ⟨h.1.below hb (Nat.le_refl _), h.2.below hb (Nat.le_refl _)⟩)).add _ _)
  clear I1 hb3 hjc j0 j1
  have q0' := blk_cell (I2.out.b _ (List.mem_cons_self ..)) (o := 0) (v := .int .i64 kc) rfl
  have q1' := blk_cell (I2.out.b _ (List.mem_cons_self ..)) (o := 1) (v := .int .i64 (kn : Int)) rfl
  have q2' := blk_cell (I2.out.b _ (List.mem_cons_self ..)) (o := 2) (v := .slice y1 sp.length m1) rfl
  have q3' := blk_cell (I2.out.b _ (List.mem_cons_self ..)) (o := 3) (v := .slice y2 lp.length m2) rfl
  have j0 := blk_cell (I2.out.b _ (List.mem_cons_of_mem _ (List.mem_cons_self ..))) (o := 0) (v := .slice x1 s.length k1) rfl
  have j1 := blk_cell (I2.out.b _ (List.mem_cons_of_mem _ (List.mem_cons_self ..))) (o := 1) (v := .slice x2 l.length k2) rfl
  by_cases hz : kc = 0
  · have b0 : (kc != 0) = false := by simp [hz]
    obtain ⟨t3, TT⟩ := HT.out hz
    obtain ⟨t1, t2⟩ := HT2.out hz
    rw [← t1, ← t2] at t3
    clear t1 t2 HT HT2
    have hspl := TT.len
    have hjf := TT.jf
    have hjf0 := TT.jf0
    obtain ⟨nl, hnl⟩ : ∃ nl : List UInt8, nl = [] := ⟨_, rfl⟩
    obtain ⟨q1, hq1⟩ : ∃ q1, q1 = sp ++ lp := ⟨_, rfl⟩
    obtain ⟨q2, hq2⟩ : ∃ q2, q2 = s ++ l := ⟨_, rfl⟩
    obtain ⟨ns, hns⟩ : ∃ ns, ns = countN q1 [] := ⟨_, rfl⟩
    obtain ⟨nw, hnw⟩ : ∃ nw, nw = countN q2 [] := ⟨_, rfl⟩
    obtain ⟨q3, hq3⟩ : ∃ q3, q3 = cutL q1 [] 0 := ⟨_, rfl⟩
    have hq1l : q1.length ≤ 2400 := by rw [hq1, List.length_append]; omega
    have HSY := hid (fun v1 v2 w' h1 h2 => implSync w'.heap.size sp lp v1 v2 w' (by omega) (by omega) (Nat.le_refl _) h1 h2)
    have HSW := hid (fun v1 v2 w' h1 h2 => implSync w'.heap.size s l v1 v2 w' (by omega) (by omega) (Nat.le_refl _) h1 h2)
    have HCR := hid (fun v1 v2 w' h1 h2 => implCrash w'.heap.size q1 nl 0 v1 v2 w' (by omega) (by rw [hnl]; simp) (Nat.le_refl _) h1 h2)
    have E1 : SYPost sp lp = JPost 0 ns q1 nl := by rw [sync_so hjf, hns, hnl, hq1]
    have E2 : SYPost s l = JPost 0 nw q2 nl := by rw [sync_so hjf0, hnw, hnl, hq2]
    have E3 : CRPost q1 nl 0 = JPost 0 ns q3 nl := by rw [hnl, crash_so (by rw [hq1]; exact TT.k0), hq3, hns, hq1, TT.cut]
    rw [E1] at HSY
    rw [E2] at HSW
    rw [E3] at HCR
    unfold JPost at HSY HSW HCR
    have HJF : Jn.Hid (∀ (B : Nat) (v1 v2 : Value) (w' : World), B ≤ w'.heap.size → At w' B v1 sp → At w' B v2 lp → Calls Try.prog 31 #[.agg #[v1, v2]] w' fun e w'' => e = .returned (.int .i64 0) ∧ Below w'.heap.size w' w'') := hid (fun B v1 v2 w' hB h1 h2 => by have h := implJFault B sp lp v1 v2 w' (by omega) (by omega) hB h1 h2; rw [hjf] at h; exact h)
    have HRL := hid (fun v w' h => implRead w'.heap.size q1 v w' (by omega) (Nat.le_refl _) h)
    unfold QPost at HRL
    have HBL : Jn.Hid (((nl.length : Int) == 0) = true) := hid (by rw [hnl]; rfl)
    have HK1 : Jn.Hid (((kn : Int) == (nw : Int) + 1) = true) := hid (by have h := TT.cnt; rw [← hq2, ← hnw] at h; rw [t3, h]; simp)
    have HK2 : Jn.Hid (((ns : Int) == (kn : Int)) = true) := hid (by have h := TT.cnt2; rw [← hq1, ← hns] at h; rw [t3, h]; simp)
    have HWW : Jn.Hid (IntKind.i64.wrap ((nw : Int) + 1) = (nw : Int) + 1) := hid (IntWalk.i64_in _ (by have h := TT.small; rw [← hq2, ← hnw] at h; omega))
    obtain ⟨m, hm, hlast⟩ := TT.last
    rw [← hq1] at hm hlast
    have hm2 : m ≤ 2400 := by
      rw [(lines_ok (by omega)).2.2] at hm
      have := readL_count q1
      omega
    have HWM : Jn.Hid (IntKind.i64.wrap (m : Int) = (m : Int)) := hid (IntWalk.i64_in _ (by omega))
    clear E1 E2 E3 hjf hjf0 hns hnw hq3 TT hnl t3
    generalize linesC q1 = d1 at *
    generalize linesB q1 = e1 at *
    generalize linesL q1 = ls at *
    have HSB : Jn.Hid ((ls.length : Int) - 1 = (m : Int)) := hid (by omega)
    have HQM : Jn.Hid ((m : Int) < (ls.length : Int)) := hid (by omega)
    have HLS : Jn.Hid (∃ h : m < ls.length, str ls[m] = sx) := hid (by
      have hml : m < ls.length := by omega
      refine ⟨hml, ?_⟩
      rw [List.getElem?_eq_getElem hml] at hlast
      rw [Option.some.inj hlast, HSX.out])
    have HPO : Jn.Hid (0 < ls.length) := hid (by omega)
    clear hz hm hlast hq1 hq2 hq1l hspl HSX hm2
    have q0 := q0'
    go_wp2_with fail
    refine (HSY.out _ _ _ I2.out.p.2.o1.at I2.out.p.2.o2.at).mono ?_
    rintro e w4 ⟨u1, o1, u2, o2, rfl, hjs, hb4⟩
    have I3 := hid (((I2.out.below hb4).new (P' := fun x => (Jo x 0 (.slice x1 s.length k1) (.slice x2 l.length k2) s l ∧ Jo x 0 (.slice y1 sp.length m1) (.slice y2 lp.length m2) sp lp) ∧ Jo x 0 (.slice u1 q1.length o1) (.slice u2 nl.length o2) q1 nl) ⟨(I2.out.below hb4).p, hjs.mono (Nat.zero_le _)⟩ (fun x y h hb => ⟨⟨h.1.1.below hb (Nat.le_refl _), h.1.2.below hb (Nat.le_refl _)⟩, h.2.below hb (Nat.le_refl _)⟩)).add #[.int .i64 0, .int .i64 (ns : Int), .slice u1 q1.length o1, .slice u2 nl.length o2] 49)
    clear I2 hjs hb4 q0 q0' q1' q2' q3' j0 j1 HSY
    have gs2 := blk_cell (I3.out.b _ (List.mem_cons_self ..)) (o := 2) (v := .slice u1 q1.length o1) rfl
    go_wp2_with fail
    refine (HRL.out _ _ I3.out.p.2.o1.at).mono ?_
    rintro e w6 ⟨r1, rc, rfl, hos, hb6⟩
    have I4 := hid (((I3.out.below hb6).new (P' := fun x => ((Jo x 0 (.slice x1 s.length k1) (.slice x2 l.length k2) s l ∧ Jo x 0 (.slice y1 sp.length m1) (.slice y2 lp.length m2) sp lp) ∧ Jo x 0 (.slice u1 q1.length o1) (.slice u2 nl.length o2) q1 nl) ∧ Jn.Os x 0 (.slice r1 ls.length rc) ls) ⟨(I3.out.below hb6).p, os_mono hos (Nat.zero_le _)⟩ (fun x y h hb => ⟨⟨⟨h.1.1.1.below hb (Nat.le_refl _), h.1.1.2.below hb (Nat.le_refl _)⟩, h.1.2.below hb (Nat.le_refl _)⟩, h.2.below hb (Nat.le_refl _)⟩)).add #[.int .i64 d1, .bool e1, .slice r1 ls.length rc] 32)
    clear I3 hos hb6 gs2 HRL
    have j0 := blk_cell (I4.out.b _ (List.mem_cons_of_mem _ (List.mem_cons_of_mem _ (List.mem_cons_of_mem _ (List.mem_cons_self ..))))) (o := 0) (v := .slice x1 s.length k1) rfl
    have j1 := blk_cell (I4.out.b _ (List.mem_cons_of_mem _ (List.mem_cons_of_mem _ (List.mem_cons_of_mem _ (List.mem_cons_self ..))))) (o := 1) (v := .slice x2 l.length k2) rfl
    go_wp2_with fail
    refine (HSW.out _ _ _ I4.out.p.1.1.1.o1.at I4.out.p.1.1.1.o2.at).mono ?_
    rintro e w8 ⟨z1, n1, z2, n2, rfl, hjw, hb8⟩
    have I5 := hid ((I4.out.below hb8).add #[.int .i64 0, .int .i64 (nw : Int), .slice z1 q2.length n1, .slice z2 nl.length n2] 49)
    clear I4 hjw hb8 j0 j1 HSW
    go_upto_region 10 with fail
    obtain ⟨w5, hw5⟩ : ∃ w5, w5 = w8.alloc (.cells #[.int .i64 0, .int .i64 (nw : Int), .slice z1 q2.length n1, .slice z2 nl.length n2] 49) := ⟨_, rfl⟩
    obtain ⟨gw, hgw'⟩ : ∃ gw, gw = w8.heap.size := ⟨_, rfl⟩
    obtain ⟨gr, hgr'⟩ : ∃ gr, gr = w6.heap.size := ⟨_, rfl⟩
    obtain ⟨gs, hgs'⟩ : ∃ gs, gs = w4.heap.size := ⟨_, rfl⟩
    obtain ⟨gc, hgc'⟩ : ∃ gc, gc = w3.heap.size := ⟨_, rfl⟩
    obtain ⟨gj, hgj'⟩ : ∃ gj, gj = w1.heap.size := ⟨_, rfl⟩
    rw [← hw5, ← hgw', ← hgr', ← hgs', ← hgc', ← hgj'] at I5
    rw [← hw5, ← hgw', ← hgr', ← hgs', ← hgc', ← hgj']
    clear hw5 hgw' hgr' hgs' hgc' hgj'
    obtain ⟨hml, hstr⟩ := HLS.out
    obtain ⟨gq, rfl, hgq, hcl⟩ := I5.out.p.2.cell hml
    rw [hstr] at hcl
    have HGQ := hid hgq
    have HCL := hid hcl
    clear hgq hcl hstr HLS
    have gw0 := blk_cell (I5.out.b _ (List.mem_cons_self ..)) (o := 0) (v := .int .i64 0) rfl
    have gw1 := blk_cell (I5.out.b _ (List.mem_cons_self ..)) (o := 1) (v := .int .i64 (nw : Int)) rfl
    have gw2 := blk_cell (I5.out.b _ (List.mem_cons_self ..)) (o := 2) (v := .slice z1 q2.length n1) rfl
    have gw3 := blk_cell (I5.out.b _ (List.mem_cons_self ..)) (o := 3) (v := .slice z2 nl.length n2) rfl
    have hgw := blk_lt (I5.out.b _ (List.mem_cons_self ..))
    have gr0 := blk_cell (I5.out.b _ (List.mem_cons_of_mem _ (List.mem_cons_self ..))) (o := 0) (v := .int .i64 d1) rfl
    have gr1 := blk_cell (I5.out.b _ (List.mem_cons_of_mem _ (List.mem_cons_self ..))) (o := 1) (v := .bool e1) rfl
    have gr2 := blk_cell (I5.out.b _ (List.mem_cons_of_mem _ (List.mem_cons_self ..))) (o := 2) (v := .slice (some ⟨gq, 0, none⟩) ls.length rc) rfl
    have hgr := blk_lt (I5.out.b _ (List.mem_cons_of_mem _ (List.mem_cons_self ..)))
    have gs0 := blk_cell (I5.out.b _ (List.mem_cons_of_mem _ (List.mem_cons_of_mem _ (List.mem_cons_self ..)))) (o := 0) (v := .int .i64 0) rfl
    have gs1 := blk_cell (I5.out.b _ (List.mem_cons_of_mem _ (List.mem_cons_of_mem _ (List.mem_cons_self ..)))) (o := 1) (v := .int .i64 (ns : Int)) rfl
    have gs2 := blk_cell (I5.out.b _ (List.mem_cons_of_mem _ (List.mem_cons_of_mem _ (List.mem_cons_self ..)))) (o := 2) (v := .slice u1 q1.length o1) rfl
    have gs3 := blk_cell (I5.out.b _ (List.mem_cons_of_mem _ (List.mem_cons_of_mem _ (List.mem_cons_self ..)))) (o := 3) (v := .slice u2 nl.length o2) rfl
    have hgs := blk_lt (I5.out.b _ (List.mem_cons_of_mem _ (List.mem_cons_of_mem _ (List.mem_cons_self ..))))
    have gc0 := blk_cell (I5.out.b _ (List.mem_cons_of_mem _ (List.mem_cons_of_mem _ (List.mem_cons_of_mem _ (List.mem_cons_self ..))))) (o := 0) (v := .int .i64 kc) rfl
    have gc1 := blk_cell (I5.out.b _ (List.mem_cons_of_mem _ (List.mem_cons_of_mem _ (List.mem_cons_of_mem _ (List.mem_cons_self ..))))) (o := 1) (v := .int .i64 (kn : Int)) rfl
    have gc2 := blk_cell (I5.out.b _ (List.mem_cons_of_mem _ (List.mem_cons_of_mem _ (List.mem_cons_of_mem _ (List.mem_cons_self ..))))) (o := 2) (v := .slice y1 sp.length m1) rfl
    have gc3 := blk_cell (I5.out.b _ (List.mem_cons_of_mem _ (List.mem_cons_of_mem _ (List.mem_cons_of_mem _ (List.mem_cons_self ..))))) (o := 3) (v := .slice y2 lp.length m2) rfl
    have hgc := blk_lt (I5.out.b _ (List.mem_cons_of_mem _ (List.mem_cons_of_mem _ (List.mem_cons_of_mem _ (List.mem_cons_self ..)))))
    have gj0 := blk_cell (I5.out.b _ (List.mem_cons_of_mem _ (List.mem_cons_of_mem _ (List.mem_cons_of_mem _ (List.mem_cons_of_mem _ (List.mem_cons_self ..)))))) (o := 0) (v := .slice x1 s.length k1) rfl
    have gj1 := blk_cell (I5.out.b _ (List.mem_cons_of_mem _ (List.mem_cons_of_mem _ (List.mem_cons_of_mem _ (List.mem_cons_of_mem _ (List.mem_cons_self ..)))))) (o := 1) (v := .slice x2 l.length k2) rfl
    have hgj := blk_lt (I5.out.b _ (List.mem_cons_of_mem _ (List.mem_cons_of_mem _ (List.mem_cons_of_mem _ (List.mem_cons_of_mem _ (List.mem_cons_self ..))))))
    dsimp only at hgw hgr hgs hgc hgj
    have bl0 := HBL.out
    have bk1 := HK1.out
    have bk2 := HK2.out
    have hne : (sx.toList == sx.toList) = true := by simp
    have qpo := HPO.out
    have hbd : Below w5.heap.size w5 w5.drew := (Below.refl _ w5).drew
    refine wp_region_held_drew (S := fun wx => Below w5.heap.size w5 wx) (by kernel_rfl) hbd (fun hHeld => ?_)
    refine wpAnyH_take (i := 0) (oi := { dst := some 38, op := Go.Op.fieldAddr 49 (Go.Operand.tmp 6) 0, type := 0, pos := "laws.go:618", after := #[], guard := none }) (v := .pointer (some ⟨gs, 0, none⟩)) rfl (by kernel_rfl) (by kernel_rfl) (by kernel_rfl) (fun _ _ _ h => h) (Or.inl ⟨by rfl, by intro w hSw; (try dsimp only at hSw); go_simp⟩) (by assumption) ?_
    simp only [Act.put, List.setIfInBounds_toArray, List.set_cons_zero, List.set_cons_succ]
    refine wpAnyH_take (i := 1) (oi := { dst := some 39, op := Go.Op.load 2 (Go.Operand.tmp 38), type := 2, pos := "laws.go:618", after := #[{ on := 0, ground := Go.Ground.data }], guard := none }) (v := .int .i64 0) rfl (by kernel_rfl) (by kernel_rfl) (by kernel_rfl) (fun _ _ _ h => h) (Or.inl ⟨by rfl, by intro w hSw; (try dsimp only at hSw); have ca := kept_cell hSw hgs gs0; go_simp⟩) (by assumption) ?_
    simp only [Act.put, List.setIfInBounds_toArray, List.set_cons_zero, List.set_cons_succ]
    refine wpAnyH_take (i := 2) (oi := { dst := some 40, op := Go.Op.binOp Go.BinOp.eql 2 (Go.Operand.tmp 39) (Go.Operand.const (Go.Value.int Go.IntKind.i64 0)) 2, type := 4, pos := "laws.go:618", after := #[{ on := 1, ground := Go.Ground.data }], guard := none }) (v := .bool true) rfl (by kernel_rfl) (by kernel_rfl) (by kernel_rfl) (fun _ _ _ h => h) (Or.inl ⟨by rfl, by intro w hSw; (try dsimp only at hSw); go_simp⟩) (by assumption) ?_
    simp only [Act.put, List.setIfInBounds_toArray, List.set_cons_zero, List.set_cons_succ]
    refine wpAnyH_take (i := 3) (oi := { dst := some 41, op := Go.Op.move (Go.Operand.tmp 40), type := 4, pos := "laws.go:618", after := #[{ on := 2, ground := Go.Ground.data }], guard := none }) (v := .bool true) rfl (by kernel_rfl) (by kernel_rfl) (by kernel_rfl) (fun _ _ _ h => h) (Or.inl ⟨by rfl, by intro w hSw; (try dsimp only at hSw); go_simp⟩) (by assumption) ?_
    simp only [Act.put, List.setIfInBounds_toArray, List.set_cons_zero, List.set_cons_succ]
    refine wpAnyH_take (i := 4) (oi := { dst := some 42, op := Go.Op.fieldAddr 49 (Go.Operand.tmp 6) 2, type := 0, pos := "laws.go:618", after := #[{ on := 3, ground := Go.Ground.guard }], guard := some (3, true) }) (v := .pointer (some ⟨gs, 2, none⟩)) rfl (by kernel_rfl) (by kernel_rfl) (by kernel_rfl) (fun _ _ _ h => h) (Or.inl ⟨by rfl, by intro w hSw; (try dsimp only at hSw); go_simp⟩) (by assumption) ?_
    simp only [Act.put, List.setIfInBounds_toArray, List.set_cons_zero, List.set_cons_succ]
    refine wpAnyH_take (i := 5) (oi := { dst := some 43, op := Go.Op.fieldAddr 44 (Go.Operand.tmp 42) 1, type := 0, pos := "laws.go:618", after := #[{ on := 4, ground := Go.Ground.data }, { on := 3, ground := Go.Ground.guard }], guard := some (3, true) }) (v := .pointer (some ⟨gs, 3, none⟩)) rfl (by kernel_rfl) (by kernel_rfl) (by kernel_rfl) (fun _ _ _ h => h) (Or.inl ⟨by rfl, by intro w hSw; (try dsimp only at hSw); go_simp⟩) (by assumption) ?_
    simp only [Act.put, List.setIfInBounds_toArray, List.set_cons_zero, List.set_cons_succ]
    refine wpAnyH_take (i := 6) (oi := { dst := some 44, op := Go.Op.load 24 (Go.Operand.tmp 43), type := 24, pos := "laws.go:618", after := #[{ on := 5, ground := Go.Ground.data }, { on := 3, ground := Go.Ground.guard }], guard := some (3, true) }) (v := .slice u2 nl.length o2) rfl (by kernel_rfl) (by kernel_rfl) (by kernel_rfl) (fun _ _ _ h => h) (Or.inl ⟨by rfl, by intro w hSw; (try dsimp only at hSw); have ca := kept_cell hSw hgs gs3; go_simp⟩) (by assumption) ?_
    simp only [Act.put, List.setIfInBounds_toArray, List.set_cons_zero, List.set_cons_succ]
    refine wpAnyH_take (i := 7) (oi := { dst := some 45, op := Go.Op.call { callee := Go.Callee.builtin Go.Builtin.len, args := #[Go.Operand.tmp 44], argTypes := #[24] }, type := 3, pos := "laws.go:618", after := #[{ on := 6, ground := Go.Ground.data }, { on := 3, ground := Go.Ground.guard }], guard := some (3, true) }) (v := .int .i64 (nl.length : Int)) rfl (by kernel_rfl) (by kernel_rfl) (by kernel_rfl) (fun _ _ _ h => h) (Or.inl ⟨by rfl, by intro w hSw; (try dsimp only at hSw); go_simp⟩) (by assumption) ?_
    simp only [Act.put, List.setIfInBounds_toArray, List.set_cons_zero, List.set_cons_succ]
    refine wpAnyH_take (i := 8) (oi := { dst := some 46, op := Go.Op.binOp Go.BinOp.eql 3 (Go.Operand.tmp 45) (Go.Operand.const (Go.Value.int Go.IntKind.i64 0)) 3, type := 4, pos := "laws.go:618", after := #[{ on := 7, ground := Go.Ground.data }, { on := 3, ground := Go.Ground.guard }], guard := some (3, true) }) (v := .bool true) rfl (by kernel_rfl) (by kernel_rfl) (by kernel_rfl) (fun _ _ _ h => h) (Or.inl ⟨by rfl, by intro w hSw; (try dsimp only at hSw); go_simp⟩) (by assumption) ?_
    simp only [Act.put, List.setIfInBounds_toArray, List.set_cons_zero, List.set_cons_succ]
    refine wpAnyH_take (i := 9) (oi := { dst := some 47, op := Go.Op.pick (Go.Operand.tmp 41) (Go.Operand.tmp 46) (Go.Operand.const (Go.Value.bool false)), type := 4, pos := "laws.go:618", after := #[{ on := 3, ground := Go.Ground.data }, { on := 8, ground := Go.Ground.data }], guard := none }) (v := .bool true) rfl (by kernel_rfl) (by kernel_rfl) (by kernel_rfl) (fun _ _ _ h => h) (Or.inl ⟨by rfl, by intro w hSw; (try dsimp only at hSw); go_simp⟩) (by assumption) ?_
    simp only [Act.put, List.setIfInBounds_toArray, List.set_cons_zero, List.set_cons_succ]
    refine wpAnyH_take (i := 10) (oi := { dst := some 48, op := Go.Op.move (Go.Operand.tmp 47), type := 4, pos := "laws.go:618", after := #[{ on := 9, ground := Go.Ground.data }, { on := 3, ground := Go.Ground.chain }], guard := none }) (v := .bool true) rfl (by kernel_rfl) (by kernel_rfl) (by kernel_rfl) (fun _ _ _ h => h) (Or.inl ⟨by rfl, by intro w hSw; (try dsimp only at hSw); go_simp⟩) (by assumption) ?_
    simp only [Act.put, List.setIfInBounds_toArray, List.set_cons_zero, List.set_cons_succ]
    refine wpAnyH_take (i := 11) (oi := { dst := some 49, op := Go.Op.fieldAddr 49 (Go.Operand.tmp 5) 1, type := 0, pos := "laws.go:618", after := #[{ on := 10, ground := Go.Ground.guard }], guard := some (10, true) }) (v := .pointer (some ⟨gc, 1, none⟩)) rfl (by kernel_rfl) (by kernel_rfl) (by kernel_rfl) (fun _ _ _ h => h) (Or.inl ⟨by rfl, by intro w hSw; (try dsimp only at hSw); go_simp⟩) (by assumption) ?_
    simp only [Act.put, List.setIfInBounds_toArray, List.set_cons_zero, List.set_cons_succ]
    refine wpAnyH_take (i := 12) (oi := { dst := some 50, op := Go.Op.load 2 (Go.Operand.tmp 49), type := 2, pos := "laws.go:618", after := #[{ on := 11, ground := Go.Ground.data }, { on := 10, ground := Go.Ground.guard }], guard := some (10, true) }) (v := .int .i64 (kn : Int)) rfl (by kernel_rfl) (by kernel_rfl) (by kernel_rfl) (fun _ _ _ h => h) (Or.inl ⟨by rfl, by intro w hSw; (try dsimp only at hSw); have ca := kept_cell hSw hgc gc1; go_simp⟩) (by assumption) ?_
    simp only [Act.put, List.setIfInBounds_toArray, List.set_cons_zero, List.set_cons_succ]
    refine wpAnyH_take (i := 13) (oi := { dst := some 51, op := Go.Op.fieldAddr 49 (Go.Operand.tmp 8) 1, type := 0, pos := "laws.go:618", after := #[{ on := 10, ground := Go.Ground.guard }], guard := some (10, true) }) (v := .pointer (some ⟨gw, 1, none⟩)) rfl (by kernel_rfl) (by kernel_rfl) (by kernel_rfl) (fun _ _ _ h => h) (Or.inl ⟨by rfl, by intro w hSw; (try dsimp only at hSw); go_simp⟩) (by assumption) ?_
    simp only [Act.put, List.setIfInBounds_toArray, List.set_cons_zero, List.set_cons_succ]
    refine wpAnyH_take (i := 14) (oi := { dst := some 52, op := Go.Op.load 2 (Go.Operand.tmp 51), type := 2, pos := "laws.go:618", after := #[{ on := 13, ground := Go.Ground.data }, { on := 10, ground := Go.Ground.guard }], guard := some (10, true) }) (v := .int .i64 (nw : Int)) rfl (by kernel_rfl) (by kernel_rfl) (by kernel_rfl) (fun _ _ _ h => h) (Or.inl ⟨by rfl, by intro w hSw; (try dsimp only at hSw); have ca := kept_cell hSw hgw gw1; go_simp⟩) (by assumption) ?_
    simp only [Act.put, List.setIfInBounds_toArray, List.set_cons_zero, List.set_cons_succ]
    refine wpAnyH_take (i := 15) (oi := { dst := some 53, op := Go.Op.binOp Go.BinOp.add 2 (Go.Operand.tmp 52) (Go.Operand.const (Go.Value.int Go.IntKind.i64 1)) 2, type := 2, pos := "laws.go:618", after := #[{ on := 14, ground := Go.Ground.data }, { on := 10, ground := Go.Ground.guard }], guard := some (10, true) }) (v := .int .i64 ((nw : Int) + 1)) rfl (by kernel_rfl) (by kernel_rfl) (by kernel_rfl) (fun _ _ _ h => h) (Or.inl ⟨by rfl, by intro w hSw; (try dsimp only at hSw); have hww := HWW.out; go_simp⟩) (by assumption) ?_
    simp only [Act.put, List.setIfInBounds_toArray, List.set_cons_zero, List.set_cons_succ]
    refine wpAnyH_take (i := 16) (oi := { dst := some 54, op := Go.Op.binOp Go.BinOp.eql 2 (Go.Operand.tmp 50) (Go.Operand.tmp 53) 2, type := 4, pos := "laws.go:618", after := #[{ on := 12, ground := Go.Ground.data }, { on := 15, ground := Go.Ground.data }, { on := 10, ground := Go.Ground.guard }], guard := some (10, true) }) (v := .bool true) rfl (by kernel_rfl) (by kernel_rfl) (by kernel_rfl) (fun _ _ _ h => h) (Or.inl ⟨by rfl, by intro w hSw; (try dsimp only at hSw); go_simp⟩) (by assumption) ?_
    simp only [Act.put, List.setIfInBounds_toArray, List.set_cons_zero, List.set_cons_succ]
    refine wpAnyH_take (i := 17) (oi := { dst := some 55, op := Go.Op.pick (Go.Operand.tmp 48) (Go.Operand.tmp 54) (Go.Operand.const (Go.Value.bool false)), type := 4, pos := "laws.go:618", after := #[{ on := 10, ground := Go.Ground.data }, { on := 16, ground := Go.Ground.data }], guard := none }) (v := .bool true) rfl (by kernel_rfl) (by kernel_rfl) (by kernel_rfl) (fun _ _ _ h => h) (Or.inl ⟨by rfl, by intro w hSw; (try dsimp only at hSw); go_simp⟩) (by assumption) ?_
    simp only [Act.put, List.setIfInBounds_toArray, List.set_cons_zero, List.set_cons_succ]
    refine wpAnyH_take (i := 18) (oi := { dst := some 56, op := Go.Op.move (Go.Operand.tmp 55), type := 4, pos := "laws.go:618", after := #[{ on := 17, ground := Go.Ground.data }, { on := 10, ground := Go.Ground.chain }], guard := none }) (v := .bool true) rfl (by kernel_rfl) (by kernel_rfl) (by kernel_rfl) (fun _ _ _ h => h) (Or.inl ⟨by rfl, by intro w hSw; (try dsimp only at hSw); go_simp⟩) (by assumption) ?_
    simp only [Act.put, List.setIfInBounds_toArray, List.set_cons_zero, List.set_cons_succ]
    refine wpAnyH_take (i := 19) (oi := { dst := some 57, op := Go.Op.fieldAddr 49 (Go.Operand.tmp 6) 1, type := 0, pos := "laws.go:618", after := #[{ on := 18, ground := Go.Ground.guard }], guard := some (18, true) }) (v := .pointer (some ⟨gs, 1, none⟩)) rfl (by kernel_rfl) (by kernel_rfl) (by kernel_rfl) (fun _ _ _ h => h) (Or.inl ⟨by rfl, by intro w hSw; (try dsimp only at hSw); go_simp⟩) (by assumption) ?_
    simp only [Act.put, List.setIfInBounds_toArray, List.set_cons_zero, List.set_cons_succ]
    refine wpAnyH_take (i := 20) (oi := { dst := some 58, op := Go.Op.load 2 (Go.Operand.tmp 57), type := 2, pos := "laws.go:618", after := #[{ on := 19, ground := Go.Ground.data }, { on := 18, ground := Go.Ground.guard }], guard := some (18, true) }) (v := .int .i64 (ns : Int)) rfl (by kernel_rfl) (by kernel_rfl) (by kernel_rfl) (fun _ _ _ h => h) (Or.inl ⟨by rfl, by intro w hSw; (try dsimp only at hSw); have ca := kept_cell hSw hgs gs1; go_simp⟩) (by assumption) ?_
    simp only [Act.put, List.setIfInBounds_toArray, List.set_cons_zero, List.set_cons_succ]
    refine wpAnyH_take (i := 21) (oi := { dst := some 59, op := Go.Op.fieldAddr 49 (Go.Operand.tmp 5) 1, type := 0, pos := "laws.go:618", after := #[{ on := 18, ground := Go.Ground.guard }], guard := some (18, true) }) (v := .pointer (some ⟨gc, 1, none⟩)) rfl (by kernel_rfl) (by kernel_rfl) (by kernel_rfl) (fun _ _ _ h => h) (Or.inl ⟨by rfl, by intro w hSw; (try dsimp only at hSw); go_simp⟩) (by assumption) ?_
    simp only [Act.put, List.setIfInBounds_toArray, List.set_cons_zero, List.set_cons_succ]
    refine wpAnyH_take (i := 22) (oi := { dst := some 60, op := Go.Op.load 2 (Go.Operand.tmp 59), type := 2, pos := "laws.go:618", after := #[{ on := 21, ground := Go.Ground.data }, { on := 18, ground := Go.Ground.guard }], guard := some (18, true) }) (v := .int .i64 (kn : Int)) rfl (by kernel_rfl) (by kernel_rfl) (by kernel_rfl) (fun _ _ _ h => h) (Or.inl ⟨by rfl, by intro w hSw; (try dsimp only at hSw); have ca := kept_cell hSw hgc gc1; go_simp⟩) (by assumption) ?_
    simp only [Act.put, List.setIfInBounds_toArray, List.set_cons_zero, List.set_cons_succ]
    refine wpAnyH_take (i := 23) (oi := { dst := some 61, op := Go.Op.binOp Go.BinOp.eql 2 (Go.Operand.tmp 58) (Go.Operand.tmp 60) 2, type := 4, pos := "laws.go:618", after := #[{ on := 20, ground := Go.Ground.data }, { on := 22, ground := Go.Ground.data }, { on := 18, ground := Go.Ground.guard }], guard := some (18, true) }) (v := .bool true) rfl (by kernel_rfl) (by kernel_rfl) (by kernel_rfl) (fun _ _ _ h => h) (Or.inl ⟨by rfl, by intro w hSw; (try dsimp only at hSw); go_simp⟩) (by assumption) ?_
    simp only [Act.put, List.setIfInBounds_toArray, List.set_cons_zero, List.set_cons_succ]
    refine wpAnyH_take (i := 24) (oi := { dst := some 62, op := Go.Op.pick (Go.Operand.tmp 56) (Go.Operand.tmp 61) (Go.Operand.const (Go.Value.bool false)), type := 4, pos := "laws.go:618", after := #[{ on := 18, ground := Go.Ground.data }, { on := 23, ground := Go.Ground.data }], guard := none }) (v := .bool true) rfl (by kernel_rfl) (by kernel_rfl) (by kernel_rfl) (fun _ _ _ h => h) (Or.inl ⟨by rfl, by intro w hSw; (try dsimp only at hSw); go_simp⟩) (by assumption) ?_
    simp only [Act.put, List.setIfInBounds_toArray, List.set_cons_zero, List.set_cons_succ]
    refine wpAnyH_take (i := 25) (oi := { dst := some 63, op := Go.Op.move (Go.Operand.tmp 62), type := 4, pos := "laws.go:618", after := #[{ on := 24, ground := Go.Ground.data }, { on := 18, ground := Go.Ground.chain }], guard := none }) (v := .bool true) rfl (by kernel_rfl) (by kernel_rfl) (by kernel_rfl) (fun _ _ _ h => h) (Or.inl ⟨by rfl, by intro w hSw; (try dsimp only at hSw); go_simp⟩) (by assumption) ?_
    simp only [Act.put, List.setIfInBounds_toArray, List.set_cons_zero, List.set_cons_succ]
    refine wpAnyH_take (i := 26) (oi := { dst := some 64, op := Go.Op.fieldAddr 32 (Go.Operand.tmp 7) 2, type := 0, pos := "laws.go:618", after := #[{ on := 25, ground := Go.Ground.guard }], guard := some (25, true) }) (v := .pointer (some ⟨gr, 2, none⟩)) rfl (by kernel_rfl) (by kernel_rfl) (by kernel_rfl) (fun _ _ _ h => h) (Or.inl ⟨by rfl, by intro w hSw; (try dsimp only at hSw); go_simp⟩) (by assumption) ?_
    simp only [Act.put, List.setIfInBounds_toArray, List.set_cons_zero, List.set_cons_succ]
    refine wpAnyH_take (i := 27) (oi := { dst := some 65, op := Go.Op.load 30 (Go.Operand.tmp 64), type := 30, pos := "laws.go:618", after := #[{ on := 26, ground := Go.Ground.data }, { on := 25, ground := Go.Ground.guard }], guard := some (25, true) }) (v := .slice (some ⟨gq, 0, none⟩) ls.length rc) rfl (by kernel_rfl) (by kernel_rfl) (by kernel_rfl) (fun _ _ _ h => h) (Or.inl ⟨by rfl, by intro w hSw; (try dsimp only at hSw); have ca := kept_cell hSw hgr gr2; go_simp⟩) (by assumption) ?_
    simp only [Act.put, List.setIfInBounds_toArray, List.set_cons_zero, List.set_cons_succ]
    refine wpAnyH_take (i := 28) (oi := { dst := some 66, op := Go.Op.call { callee := Go.Callee.builtin Go.Builtin.len, args := #[Go.Operand.tmp 65], argTypes := #[30] }, type := 3, pos := "laws.go:618", after := #[{ on := 27, ground := Go.Ground.data }, { on := 25, ground := Go.Ground.guard }], guard := some (25, true) }) (v := .int .i64 (ls.length : Int)) rfl (by kernel_rfl) (by kernel_rfl) (by kernel_rfl) (fun _ _ _ h => h) (Or.inl ⟨by rfl, by intro w hSw; (try dsimp only at hSw); go_simp⟩) (by assumption) ?_
    simp only [Act.put, List.setIfInBounds_toArray, List.set_cons_zero, List.set_cons_succ]
    refine wpAnyH_take (i := 29) (oi := { dst := some 67, op := Go.Op.binOp Go.BinOp.gtr 3 (Go.Operand.tmp 66) (Go.Operand.const (Go.Value.int Go.IntKind.i64 0)) 3, type := 4, pos := "laws.go:618", after := #[{ on := 28, ground := Go.Ground.data }, { on := 25, ground := Go.Ground.guard }], guard := some (25, true) }) (v := .bool true) rfl (by kernel_rfl) (by kernel_rfl) (by kernel_rfl) (fun _ _ _ h => h) (Or.inl ⟨by rfl, by intro w hSw; (try dsimp only at hSw); go_simp⟩) (by assumption) ?_
    simp only [Act.put, List.setIfInBounds_toArray, List.set_cons_zero, List.set_cons_succ]
    refine wpAnyH_take (i := 30) (oi := { dst := some 68, op := Go.Op.pick (Go.Operand.tmp 63) (Go.Operand.tmp 67) (Go.Operand.const (Go.Value.bool false)), type := 4, pos := "laws.go:618", after := #[{ on := 25, ground := Go.Ground.data }, { on := 29, ground := Go.Ground.data }], guard := none }) (v := .bool true) rfl (by kernel_rfl) (by kernel_rfl) (by kernel_rfl) (fun _ _ _ h => h) (Or.inl ⟨by rfl, by intro w hSw; (try dsimp only at hSw); go_simp⟩) (by assumption) ?_
    simp only [Act.put, List.setIfInBounds_toArray, List.set_cons_zero, List.set_cons_succ]
    refine wpAnyH_take (i := 31) (oi := { dst := some 69, op := Go.Op.move (Go.Operand.tmp 68), type := 4, pos := "laws.go:618", after := #[{ on := 30, ground := Go.Ground.data }, { on := 25, ground := Go.Ground.chain }], guard := none }) (v := .bool true) rfl (by kernel_rfl) (by kernel_rfl) (by kernel_rfl) (fun _ _ _ h => h) (Or.inl ⟨by rfl, by intro w hSw; (try dsimp only at hSw); go_simp⟩) (by assumption) ?_
    simp only [Act.put, List.setIfInBounds_toArray, List.set_cons_zero, List.set_cons_succ]
    refine wpAnyH_take (i := 32) (oi := { dst := some 70, op := Go.Op.fieldAddr 32 (Go.Operand.tmp 7) 2, type := 0, pos := "laws.go:618", after := #[{ on := 31, ground := Go.Ground.guard }], guard := some (31, true) }) (v := .pointer (some ⟨gr, 2, none⟩)) rfl (by kernel_rfl) (by kernel_rfl) (by kernel_rfl) (fun _ _ _ h => h) (Or.inl ⟨by rfl, by intro w hSw; (try dsimp only at hSw); go_simp⟩) (by assumption) ?_
    simp only [Act.put, List.setIfInBounds_toArray, List.set_cons_zero, List.set_cons_succ]
    refine wpAnyH_take (i := 33) (oi := { dst := some 71, op := Go.Op.load 30 (Go.Operand.tmp 70), type := 30, pos := "laws.go:618", after := #[{ on := 32, ground := Go.Ground.data }, { on := 31, ground := Go.Ground.guard }], guard := some (31, true) }) (v := .slice (some ⟨gq, 0, none⟩) ls.length rc) rfl (by kernel_rfl) (by kernel_rfl) (by kernel_rfl) (fun _ _ _ h => h) (Or.inl ⟨by rfl, by intro w hSw; (try dsimp only at hSw); have ca := kept_cell hSw hgr gr2; go_simp⟩) (by assumption) ?_
    simp only [Act.put, List.setIfInBounds_toArray, List.set_cons_zero, List.set_cons_succ]
    refine wpAnyH_take (i := 34) (oi := { dst := some 72, op := Go.Op.fieldAddr 32 (Go.Operand.tmp 7) 2, type := 0, pos := "laws.go:618", after := #[{ on := 31, ground := Go.Ground.guard }], guard := some (31, true) }) (v := .pointer (some ⟨gr, 2, none⟩)) rfl (by kernel_rfl) (by kernel_rfl) (by kernel_rfl) (fun _ _ _ h => h) (Or.inl ⟨by rfl, by intro w hSw; (try dsimp only at hSw); go_simp⟩) (by assumption) ?_
    simp only [Act.put, List.setIfInBounds_toArray, List.set_cons_zero, List.set_cons_succ]
    refine wpAnyH_take (i := 35) (oi := { dst := some 73, op := Go.Op.load 30 (Go.Operand.tmp 72), type := 30, pos := "laws.go:618", after := #[{ on := 34, ground := Go.Ground.data }, { on := 31, ground := Go.Ground.guard }], guard := some (31, true) }) (v := .slice (some ⟨gq, 0, none⟩) ls.length rc) rfl (by kernel_rfl) (by kernel_rfl) (by kernel_rfl) (fun _ _ _ h => h) (Or.inl ⟨by rfl, by intro w hSw; (try dsimp only at hSw); have ca := kept_cell hSw hgr gr2; go_simp⟩) (by assumption) ?_
    simp only [Act.put, List.setIfInBounds_toArray, List.set_cons_zero, List.set_cons_succ]
    refine wpAnyH_take (i := 36) (oi := { dst := some 74, op := Go.Op.call { callee := Go.Callee.builtin Go.Builtin.len, args := #[Go.Operand.tmp 73], argTypes := #[30] }, type := 3, pos := "laws.go:618", after := #[{ on := 35, ground := Go.Ground.data }, { on := 31, ground := Go.Ground.guard }], guard := some (31, true) }) (v := .int .i64 (ls.length : Int)) rfl (by kernel_rfl) (by kernel_rfl) (by kernel_rfl) (fun _ _ _ h => h) (Or.inl ⟨by rfl, by intro w hSw; (try dsimp only at hSw); go_simp⟩) (by assumption) ?_
    simp only [Act.put, List.setIfInBounds_toArray, List.set_cons_zero, List.set_cons_succ]
    refine wpAnyH_take (i := 37) (oi := { dst := some 75, op := Go.Op.binOp Go.BinOp.sub 3 (Go.Operand.tmp 74) (Go.Operand.const (Go.Value.int Go.IntKind.i64 1)) 3, type := 3, pos := "laws.go:618", after := #[{ on := 36, ground := Go.Ground.data }, { on := 31, ground := Go.Ground.guard }], guard := some (31, true) }) (v := .int .i64 (m : Int)) rfl (by kernel_rfl) (by kernel_rfl) (by kernel_rfl) (fun _ _ _ h => h) (Or.inl ⟨by rfl, by intro w hSw; (try dsimp only at hSw); have hsb := HSB.out; have hwm := HWM.out; go_simp⟩) (by assumption) ?_
    simp only [Act.put, List.setIfInBounds_toArray, List.set_cons_zero, List.set_cons_succ]
    refine wpAnyH_take (i := 38) (oi := { dst := some 76, op := Go.Op.indexAddr 30 (Go.Operand.tmp 71) (Go.Operand.tmp 75), type := 0, pos := "laws.go:618", after := #[{ on := 33, ground := Go.Ground.data }, { on := 37, ground := Go.Ground.data }, { on := 31, ground := Go.Ground.guard }], guard := some (31, true) }) (v := .pointer (some ⟨gq, m, none⟩)) rfl (by kernel_rfl) (by kernel_rfl) (by kernel_rfl) (fun _ _ _ h => h) (Or.inl ⟨by rfl, by intro w hSw; (try dsimp only at hSw); have hqm := HQM.out; go_simp⟩) (by assumption) ?_
    simp only [Act.put, List.setIfInBounds_toArray, List.set_cons_zero, List.set_cons_succ]
    refine wpAnyH_take (i := 39) (oi := { dst := some 77, op := Go.Op.load 9 (Go.Operand.tmp 76), type := 9, pos := "laws.go:618", after := #[{ on := 38, ground := Go.Ground.data }, { on := 31, ground := Go.Ground.guard }], guard := some (31, true) }) (v := .string sx) rfl (by kernel_rfl) (by kernel_rfl) (by kernel_rfl) (fun _ _ _ h => h) (Or.inl ⟨by rfl, by intro w hSw; (try dsimp only at hSw); have ca := kept_cell hSw HGQ.out HCL.out; go_simp⟩) (by assumption) ?_
    simp only [Act.put, List.setIfInBounds_toArray, List.set_cons_zero, List.set_cons_succ]
    refine wpAnyH_take (i := 40) (oi := { dst := some 78, op := Go.Op.move (Go.Operand.tmp 4), type := 9, pos := "laws.go:618", after := #[{ on := 31, ground := Go.Ground.guard }], guard := some (31, true) }) (v := .string sx) rfl (by kernel_rfl) (by kernel_rfl) (by kernel_rfl) (fun _ _ _ h => h) (Or.inl ⟨by rfl, by intro w hSw; (try dsimp only at hSw); go_simp⟩) (by assumption) ?_
    simp only [Act.put, List.setIfInBounds_toArray, List.set_cons_zero, List.set_cons_succ]
    refine wpAnyH_take (i := 41) (oi := { dst := some 79, op := Go.Op.binOp Go.BinOp.eql 9 (Go.Operand.tmp 77) (Go.Operand.tmp 78) 9, type := 4, pos := "laws.go:618", after := #[{ on := 39, ground := Go.Ground.data }, { on := 40, ground := Go.Ground.data }, { on := 31, ground := Go.Ground.guard }], guard := some (31, true) }) (v := .bool true) rfl (by kernel_rfl) (by kernel_rfl) (by kernel_rfl) (fun _ _ _ h => h) (Or.inl ⟨by rfl, by intro w hSw; (try dsimp only at hSw); go_simp⟩) (by assumption) ?_
    simp only [Act.put, List.setIfInBounds_toArray, List.set_cons_zero, List.set_cons_succ]
    refine wpAnyH_take (i := 42) (oi := { dst := some 80, op := Go.Op.pick (Go.Operand.tmp 69) (Go.Operand.tmp 79) (Go.Operand.const (Go.Value.bool false)), type := 4, pos := "laws.go:618", after := #[{ on := 31, ground := Go.Ground.data }, { on := 41, ground := Go.Ground.data }], guard := none }) (v := .bool true) rfl (by kernel_rfl) (by kernel_rfl) (by kernel_rfl) (fun _ _ _ h => h) (Or.inl ⟨by rfl, by intro w hSw; (try dsimp only at hSw); go_simp⟩) (by assumption) ?_
    simp only [Act.put, List.setIfInBounds_toArray, List.set_cons_zero, List.set_cons_succ]
    refine wpAnyH_take (i := 43) (oi := { dst := some 81, op := Go.Op.move (Go.Operand.tmp 80), type := 4, pos := "laws.go:618", after := #[{ on := 42, ground := Go.Ground.data }, { on := 31, ground := Go.Ground.chain }], guard := none }) (v := .bool true) rfl (by kernel_rfl) (by kernel_rfl) (by kernel_rfl) (fun _ _ _ h => h) (Or.inl ⟨by rfl, by intro w hSw; (try dsimp only at hSw); go_simp⟩) (by assumption) ?_
    simp only [Act.put, List.setIfInBounds_toArray, List.set_cons_zero, List.set_cons_succ]
    refine wpAnyH_take (i := 44) (oi := { dst := some 82, op := Go.Op.fieldAddr 49 (Go.Operand.tmp 6) 2, type := 0, pos := "laws.go:618", after := #[{ on := 43, ground := Go.Ground.guard }], guard := some (43, true) }) (v := .pointer (some ⟨gs, 2, none⟩)) rfl (by kernel_rfl) (by kernel_rfl) (by kernel_rfl) (fun _ _ _ h => h) (Or.inl ⟨by rfl, by intro w hSw; (try dsimp only at hSw); go_simp⟩) (by assumption) ?_
    simp only [Act.put, List.setIfInBounds_toArray, List.set_cons_zero, List.set_cons_succ]
    refine wpAnyH_take (i := 45) (oi := { dst := some 83, op := Go.Op.load 44 (Go.Operand.tmp 82), type := 44, pos := "laws.go:618", after := #[{ on := 44, ground := Go.Ground.data }, { on := 43, ground := Go.Ground.guard }], guard := some (43, true) }) (v := .agg #[.slice u1 q1.length o1, .slice u2 nl.length o2]) rfl (by kernel_rfl) (by kernel_rfl) (by kernel_rfl) (fun _ _ _ h => h) (Or.inl ⟨by rfl, by intro w hSw; (try dsimp only at hSw); have ca := kept_cell hSw hgs gs2; have cb := kept_cell hSw hgs gs3; go_simp⟩) (by assumption) ?_
    simp only [Act.put, List.setIfInBounds_toArray, List.set_cons_zero, List.set_cons_succ]
    refine wpAnyH_take (i := 48) (oi := { dst := some 86, op := Go.Op.fieldAddr 49 (Go.Operand.tmp 6) 1, type := 0, pos := "laws.go:618", after := #[{ on := 43, ground := Go.Ground.guard }], guard := some (43, true) }) (v := .pointer (some ⟨gs, 1, none⟩)) rfl (by kernel_rfl) (by kernel_rfl) (by kernel_rfl) (fun _ _ _ h => h) (Or.inl ⟨by rfl, by intro w hSw; (try dsimp only at hSw); go_simp⟩) (by assumption) ?_
    simp only [Act.put, List.setIfInBounds_toArray, List.set_cons_zero, List.set_cons_succ]
    refine wpAnyH_take (i := 49) (oi := { dst := some 87, op := Go.Op.load 2 (Go.Operand.tmp 86), type := 2, pos := "laws.go:618", after := #[{ on := 48, ground := Go.Ground.data }, { on := 43, ground := Go.Ground.guard }], guard := some (43, true) }) (v := .int .i64 (ns : Int)) rfl (by kernel_rfl) (by kernel_rfl) (by kernel_rfl) (fun _ _ _ h => h) (Or.inl ⟨by rfl, by intro w hSw; (try dsimp only at hSw); have ca := kept_cell hSw hgs gs1; go_simp⟩) (by assumption) ?_
    simp only [Act.put, List.setIfInBounds_toArray, List.set_cons_zero, List.set_cons_succ]
    refine wpAnyH_ready (rs := [46]) (by kernel_rfl) (by simp) ?_
    refine AllReadyH.cons (o := { dst := some 84, op := Go.Op.call { callee := Go.Callee.value (Go.Operand.func 42), args := #[Go.Operand.tmp 83, Go.Operand.const (Go.Value.int Go.IntKind.i64 0)], argTypes := #[44, 2] }, type := 49, pos := "laws.go:618", after := #[{ on := 45, ground := Go.Ground.data }, { on := 43, ground := Go.Ground.chain }, { on := 43, ground := Go.Ground.guard }], guard := some (43, true) }) rfl (fun K hK => ?_) AllReadyH.nil
    go_simp
    go_at_call 42
    refine (HCR.out _ _ _ (I5.out.below hbd).p.1.2.o1.at (I5.out.below hbd).p.1.2.o2.at).mono ?_
    rintro z w6 ⟨v1, p1, v2, p2, rfl, hjz, hb6⟩
    have hbb : Below w5.heap.size w5 w6 := hbd.trans (hb6.mono hbd.size)
    clear hb6 hjz
    go_wp2_with fail
    refine hK.out _ _ hbb (fun hHeld => ?_)
    clear hK K
    try simp only [Act.put, List.setIfInBounds_toArray, List.set_cons_zero, List.set_cons_succ]
    refine wpAnyH_take (i := 47) (oi := { dst := some 85, op := Go.Op.field 49 (Go.Operand.tmp 84) 1, type := 2, pos := "laws.go:618", after := #[{ on := 46, ground := Go.Ground.data }, { on := 43, ground := Go.Ground.guard }], guard := some (43, true) }) (v := .int .i64 (ns : Int)) rfl (by kernel_rfl) (by kernel_rfl) (by kernel_rfl) (fun _ _ _ h => h) (Or.inl ⟨by rfl, by intro w hSw; (try dsimp only at hSw); have hf := fldJ1 0 (ns : Int) (.slice v1 q3.length p1) (.slice v2 nl.length p2); go_simp⟩) (by assumption) ?_
    simp only [Act.put, List.setIfInBounds_toArray, List.set_cons_zero, List.set_cons_succ]
    refine wpAnyH_take (i := 50) (oi := { dst := some 88, op := Go.Op.binOp Go.BinOp.eql 2 (Go.Operand.tmp 85) (Go.Operand.tmp 87) 2, type := 4, pos := "laws.go:618", after := #[{ on := 47, ground := Go.Ground.data }, { on := 49, ground := Go.Ground.data }, { on := 43, ground := Go.Ground.guard }], guard := some (43, true) }) (v := .bool true) rfl (by kernel_rfl) (by kernel_rfl) (by kernel_rfl) (fun _ _ _ h => h) (Or.inl ⟨by rfl, by intro w hSw; (try dsimp only at hSw); go_simp⟩) (by assumption) ?_
    simp only [Act.put, List.setIfInBounds_toArray, List.set_cons_zero, List.set_cons_succ]
    refine wpAnyH_take (i := 51) (oi := { dst := some 89, op := Go.Op.pick (Go.Operand.tmp 81) (Go.Operand.tmp 88) (Go.Operand.const (Go.Value.bool false)), type := 4, pos := "laws.go:618", after := #[{ on := 43, ground := Go.Ground.data }, { on := 50, ground := Go.Ground.data }], guard := none }) (v := .bool true) rfl (by kernel_rfl) (by kernel_rfl) (by kernel_rfl) (fun _ _ _ h => h) (Or.inl ⟨by rfl, by intro w hSw; (try dsimp only at hSw); go_simp⟩) (by assumption) ?_
    simp only [Act.put, List.setIfInBounds_toArray, List.set_cons_zero, List.set_cons_succ]
    refine wpAnyH_take (i := 52) (oi := { dst := some 90, op := Go.Op.move (Go.Operand.tmp 89), type := 4, pos := "laws.go:618", after := #[{ on := 51, ground := Go.Ground.data }, { on := 46, ground := Go.Ground.chain }], guard := none }) (v := .bool true) rfl (by kernel_rfl) (by kernel_rfl) (by kernel_rfl) (fun _ _ _ h => h) (Or.inl ⟨by rfl, by intro w hSw; (try dsimp only at hSw); go_simp⟩) (by assumption) ?_
    simp only [Act.put, List.setIfInBounds_toArray, List.set_cons_zero, List.set_cons_succ]
    refine wpAnyH_take (i := 53) (oi := { dst := some 91, op := Go.Op.fieldAddr 49 (Go.Operand.tmp 5) 2, type := 0, pos := "laws.go:618", after := #[{ on := 52, ground := Go.Ground.guard }], guard := some (52, true) }) (v := .pointer (some ⟨gc, 2, none⟩)) rfl (by kernel_rfl) (by kernel_rfl) (by kernel_rfl) (fun _ _ _ h => h) (Or.inl ⟨by rfl, by intro w hSw; (try dsimp only at hSw); go_simp⟩) (by assumption) ?_
    simp only [Act.put, List.setIfInBounds_toArray, List.set_cons_zero, List.set_cons_succ]
    refine wpAnyH_take (i := 54) (oi := { dst := some 92, op := Go.Op.load 44 (Go.Operand.tmp 91), type := 44, pos := "laws.go:618", after := #[{ on := 53, ground := Go.Ground.data }, { on := 52, ground := Go.Ground.guard }], guard := some (52, true) }) (v := .agg #[.slice y1 sp.length m1, .slice y2 lp.length m2]) rfl (by kernel_rfl) (by kernel_rfl) (by kernel_rfl) (fun _ _ _ h => h) (Or.inl ⟨by rfl, by intro w hSw; (try dsimp only at hSw); have ca := kept_cell hSw hgc gc2; have cb := kept_cell hSw hgc gc3; go_simp⟩) (by assumption) ?_
    simp only [Act.put, List.setIfInBounds_toArray, List.set_cons_zero, List.set_cons_succ]
    refine wpAnyH_ready (rs := [55]) (by kernel_rfl) (by simp) ?_
    refine AllReadyH.cons (o := { dst := some 93, op := Go.Op.call { callee := Go.Callee.value (Go.Operand.func 31), args := #[Go.Operand.tmp 92], argTypes := #[44] }, type := 2, pos := "laws.go:618", after := #[{ on := 54, ground := Go.Ground.data }, { on := 52, ground := Go.Ground.chain }, { on := 52, ground := Go.Ground.guard }], guard := some (52, true) }) rfl (fun K hK => ?_) AllReadyH.nil
    go_simp
    go_at_call 31
    refine (HJF.out _ _ _ _ (Nat.le_refl _) (I5.out.below hbb).p.1.1.2.o1.at (I5.out.below hbb).p.1.1.2.o2.at).mono ?_
    rintro z w7 ⟨rfl, hb7⟩
    have hbc : Below w5.heap.size w5 w7 := hbb.trans (hb7.mono hbb.size)
    clear hb7
    go_wp2_with fail
    refine hK.out _ _ hbc (fun hHeld => ?_)
    clear hK K
    try simp only [Act.put, List.setIfInBounds_toArray, List.set_cons_zero, List.set_cons_succ]
    refine wpAnyH_take (i := 56) (oi := { dst := some 94, op := Go.Op.binOp Go.BinOp.eql 2 (Go.Operand.tmp 93) (Go.Operand.const (Go.Value.int Go.IntKind.i64 0)) 2, type := 4, pos := "laws.go:618", after := #[{ on := 55, ground := Go.Ground.data }, { on := 52, ground := Go.Ground.guard }], guard := some (52, true) }) (v := .bool true) rfl (by kernel_rfl) (by kernel_rfl) (by kernel_rfl) (fun _ _ _ h => h) (Or.inl ⟨by rfl, by intro w hSw; (try dsimp only at hSw); go_simp⟩) (by assumption) ?_
    simp only [Act.put, List.setIfInBounds_toArray, List.set_cons_zero, List.set_cons_succ]
    refine wpAnyH_take (i := 57) (oi := { dst := some 95, op := Go.Op.pick (Go.Operand.tmp 90) (Go.Operand.tmp 94) (Go.Operand.const (Go.Value.bool false)), type := 4, pos := "laws.go:618", after := #[{ on := 52, ground := Go.Ground.data }, { on := 56, ground := Go.Ground.data }], guard := none }) (v := .bool true) rfl (by kernel_rfl) (by kernel_rfl) (by kernel_rfl) (fun _ _ _ h => h) (Or.inl ⟨by rfl, by intro w hSw; (try dsimp only at hSw); go_simp⟩) (by assumption) ?_
    simp only [Act.put, List.setIfInBounds_toArray, List.set_cons_zero, List.set_cons_succ]
    refine wpAnyH_take (i := 58) (oi := { dst := some 2, op := Go.Op.assign (Go.Operand.tmp 95), type := 4, pos := "laws.go:618", after := #[{ on := 57, ground := Go.Ground.data }, { on := 55, ground := Go.Ground.chain }, { on := 0, ground := Go.Ground.phase }, { on := 1, ground := Go.Ground.phase }, { on := 2, ground := Go.Ground.phase }, { on := 3, ground := Go.Ground.phase }, { on := 4, ground := Go.Ground.phase }, { on := 5, ground := Go.Ground.phase }, { on := 6, ground := Go.Ground.phase }, { on := 7, ground := Go.Ground.phase }, { on := 8, ground := Go.Ground.phase }, { on := 9, ground := Go.Ground.phase }, { on := 10, ground := Go.Ground.phase }, { on := 11, ground := Go.Ground.phase }, { on := 12, ground := Go.Ground.phase }, { on := 13, ground := Go.Ground.phase }, { on := 14, ground := Go.Ground.phase }, { on := 15, ground := Go.Ground.phase }, { on := 16, ground := Go.Ground.phase }, { on := 17, ground := Go.Ground.phase }, { on := 18, ground := Go.Ground.phase }, { on := 19, ground := Go.Ground.phase }, { on := 20, ground := Go.Ground.phase }, { on := 21, ground := Go.Ground.phase }, { on := 22, ground := Go.Ground.phase }, { on := 23, ground := Go.Ground.phase }, { on := 24, ground := Go.Ground.phase }, { on := 25, ground := Go.Ground.phase }, { on := 26, ground := Go.Ground.phase }, { on := 27, ground := Go.Ground.phase }, { on := 28, ground := Go.Ground.phase }, { on := 29, ground := Go.Ground.phase }, { on := 30, ground := Go.Ground.phase }, { on := 31, ground := Go.Ground.phase }, { on := 32, ground := Go.Ground.phase }, { on := 33, ground := Go.Ground.phase }, { on := 34, ground := Go.Ground.phase }, { on := 35, ground := Go.Ground.phase }, { on := 36, ground := Go.Ground.phase }, { on := 37, ground := Go.Ground.phase }, { on := 38, ground := Go.Ground.phase }, { on := 39, ground := Go.Ground.phase }, { on := 40, ground := Go.Ground.phase }, { on := 41, ground := Go.Ground.phase }, { on := 42, ground := Go.Ground.phase }, { on := 43, ground := Go.Ground.phase }, { on := 44, ground := Go.Ground.phase }, { on := 45, ground := Go.Ground.phase }, { on := 46, ground := Go.Ground.phase }, { on := 47, ground := Go.Ground.phase }, { on := 48, ground := Go.Ground.phase }, { on := 49, ground := Go.Ground.phase }, { on := 50, ground := Go.Ground.phase }, { on := 51, ground := Go.Ground.phase }, { on := 52, ground := Go.Ground.phase }, { on := 53, ground := Go.Ground.phase }, { on := 54, ground := Go.Ground.phase }, { on := 55, ground := Go.Ground.phase }, { on := 56, ground := Go.Ground.phase }, { on := 57, ground := Go.Ground.phase }], guard := none }) (v := .bool true) rfl (by kernel_rfl) (by kernel_rfl) (by kernel_rfl) (fun _ _ _ h => h) (Or.inl ⟨by rfl, by intro w hSw; (try dsimp only at hSw); go_simp⟩) (by assumption) ?_
    simp only [Act.put, List.setIfInBounds_toArray, List.set_cons_zero, List.set_cons_succ]
    refine wpAnyH_done (by kernel_rfl) ?_ _
    go_wp2
    go_ret
    exact ⟨rfl, (I5.out.below hbc).st⟩
  · have b0 : (kc != 0) = true := by simpa using hz
    have b1 : (kc == kc) = true := by simp
    clear HT HT2 hz
    go_upto_region 6 with fail
    have hgc := blk_lt (I2.out.b _ (List.mem_cons_self ..))
    have hgj := blk_lt (I2.out.b _ (List.mem_cons_of_mem _ (List.mem_cons_self ..)))
    dsimp only at hgc hgj
    obtain ⟨w2, hw2⟩ : ∃ w2, w2 = w3.alloc (.cells #[.int .i64 kc, .int .i64 (kn : Int), .slice y1 sp.length m1, .slice y2 lp.length m2] 49) := ⟨_, rfl⟩
    rw [← hw2] at I2 q0' q1' q2' q3' j0 j1 hgc hgj
    rw [← hw2]
    clear hw2
    have q0 := q0'
    have hbd : Below w2.heap.size w2 w2.drew := (Below.refl _ w2).drew
    refine wp_region_held_drew (S := fun wx => Below w2.heap.size w2 wx) (by kernel_rfl) hbd (fun hHeld => ?_)
    refine wpAnyH_take (i := 0) (oi := { dst := some 22, op := Go.Op.load 44 (Go.Operand.tmp 3), type := 44, pos := "laws.go:613", after := #[], guard := none }) (v := .agg #[.slice x1 s.length k1, .slice x2 l.length k2]) rfl (by kernel_rfl) (by kernel_rfl) (by kernel_rfl) (fun _ _ _ h => h) (Or.inl ⟨by rfl, by intro w hSw; (try dsimp only at hSw); have ca := kept_cell hSw hgj j0; have cb := kept_cell hSw hgj j1; go_simp⟩) (by assumption) ?_
    simp only [Act.put, List.setIfInBounds_toArray, List.set_cons_zero, List.set_cons_succ]
    refine wpAnyH_take (i := 1) (oi := { dst := some 23, op := Go.Op.move (Go.Operand.tmp 4), type := 9, pos := "laws.go:613", after := #[], guard := none }) (v := .string sx) rfl (by kernel_rfl) (by kernel_rfl) (by kernel_rfl) (fun _ _ _ h => h) (Or.inl ⟨by rfl, by intro w hSw; (try dsimp only at hSw); go_simp⟩) (by assumption) ?_
    simp only [Act.put, List.setIfInBounds_toArray, List.set_cons_zero, List.set_cons_succ]
    refine wpAnyH_take (i := 4) (oi := { dst := some 26, op := Go.Op.fieldAddr 49 (Go.Operand.tmp 5) 0, type := 0, pos := "laws.go:613", after := #[], guard := none }) (v := .pointer (some ⟨w3.heap.size, 0, none⟩)) rfl (by kernel_rfl) (by kernel_rfl) (by kernel_rfl) (fun _ _ _ h => h) (Or.inl ⟨by rfl, by intro w hSw; (try dsimp only at hSw); go_simp⟩) (by assumption) ?_
    simp only [Act.put, List.setIfInBounds_toArray, List.set_cons_zero, List.set_cons_succ]
    refine wpAnyH_take (i := 5) (oi := { dst := some 27, op := Go.Op.load 2 (Go.Operand.tmp 26), type := 2, pos := "laws.go:613", after := #[{ on := 4, ground := Go.Ground.data }], guard := none }) (v := .int .i64 kc) rfl (by kernel_rfl) (by kernel_rfl) (by kernel_rfl) (fun _ _ _ h => h) (Or.inl ⟨by rfl, by intro w hSw; (try dsimp only at hSw); have ca := kept_cell hSw hgc q0; go_simp⟩) (by assumption) ?_
    simp only [Act.put, List.setIfInBounds_toArray, List.set_cons_zero, List.set_cons_succ]
    refine wpAnyH_ready (rs := [2]) (by kernel_rfl) (by simp) ?_
    refine AllReadyH.cons (o := { dst := some 24, op := Go.Op.call { callee := Go.Callee.value (Go.Operand.func 33), args := #[Go.Operand.tmp 22, Go.Operand.tmp 23], argTypes := #[44, 9] }, type := 49, pos := "laws.go:613", after := #[{ on := 0, ground := Go.Ground.data }, { on := 1, ground := Go.Ground.data }], guard := none }) rfl (fun K hK => ?_) AllReadyH.nil
    go_simp
    go_at_call 33
    refine (HSP.out _ _ _ (I2.out.below hbd).p.1.o1.at (I2.out.below hbd).p.1.o2.at).mono ?_
    rintro z w7 ⟨z1, n1, z2, n2, rfl, hjo, hb7⟩
    have hbb : Below w2.heap.size w2 w7 := hbd.trans (hb7.mono hbd.size)
    clear hjo hb7
    go_wp2_with fail
    refine hK.out _ _ hbb (fun hHeld => ?_)
    clear hK K
    try simp only [Act.put, List.setIfInBounds_toArray, List.set_cons_zero, List.set_cons_succ]
    refine wpAnyH_take (i := 3) (oi := { dst := some 25, op := Go.Op.field 49 (Go.Operand.tmp 24) 0, type := 2, pos := "laws.go:613", after := #[{ on := 2, ground := Go.Ground.data }], guard := none }) (v := .int .i64 kc) rfl (by kernel_rfl) (by kernel_rfl) (by kernel_rfl) (fun _ _ _ h => h) (Or.inl ⟨by rfl, by intro w hSw; (try dsimp only at hSw); have hf := fldJ kc (kn : Int) (.slice z1 sp.length n1) (.slice z2 lp.length n2); go_simp⟩) (by assumption) ?_
    simp only [Act.put, List.setIfInBounds_toArray, List.set_cons_zero, List.set_cons_succ]
    refine wpAnyH_take (i := 6) (oi := { dst := some 28, op := Go.Op.binOp Go.BinOp.eql 2 (Go.Operand.tmp 25) (Go.Operand.tmp 27) 2, type := 4, pos := "laws.go:613", after := #[{ on := 3, ground := Go.Ground.data }, { on := 5, ground := Go.Ground.data }], guard := none }) (v := .bool true) rfl (by kernel_rfl) (by kernel_rfl) (by kernel_rfl) (fun _ _ _ h => h) (Or.inl ⟨by rfl, by intro w hSw; (try dsimp only at hSw); go_simp⟩) (by assumption) ?_
    simp only [Act.put, List.setIfInBounds_toArray, List.set_cons_zero, List.set_cons_succ]
    refine wpAnyH_take (i := 7) (oi := { dst := some 2, op := Go.Op.assign (Go.Operand.tmp 28), type := 4, pos := "laws.go:613", after := #[{ on := 6, ground := Go.Ground.data }, { on := 2, ground := Go.Ground.chain }, { on := 0, ground := Go.Ground.phase }, { on := 1, ground := Go.Ground.phase }, { on := 2, ground := Go.Ground.phase }, { on := 3, ground := Go.Ground.phase }, { on := 4, ground := Go.Ground.phase }, { on := 5, ground := Go.Ground.phase }, { on := 6, ground := Go.Ground.phase }], guard := none }) (v := .bool true) rfl (by kernel_rfl) (by kernel_rfl) (by kernel_rfl) (fun _ _ _ h => h) (Or.inl ⟨by rfl, by intro w hSw; (try dsimp only at hSw); go_simp⟩) (by assumption) ?_
    simp only [Act.put, List.setIfInBounds_toArray, List.set_cons_zero, List.set_cons_succ]
    refine wpAnyH_done (by kernel_rfl) ?_ _
    go_wp2
    go_ret
    exact ⟨rfl, (I2.out.below hbb).st⟩
theorem own : ownKnob Try.prog.godebug = none := by kernel_rfl
theorem laidOut : laidOutB Try.prog = true := by kernel_rfl
set_option maxRecDepth 100000 in
theorem lifted (os : Os) (started : os.Started) (H : Type) (enc : TypeId × Value → H) :
    ReturnsInHanded {} Try.checked os 12 .any (Rows.fnAppendsSpec.pre6 enc Try.prog Try.f12 Rows.fnAppendsRow.domain false) (Rows.fnAppendsSpec.post enc Try.prog Try.f12 false true false false) := by
  refine returnsInHanded_of_change (C := Try.checked) own started (by kernel_rfl) Try.func12
    (ChangeSpec.witness6 (enc := enc) (C := Try.checked) false ⟨#[], #[.slice none 0 0], []⟩ 8 (by kernel_rfl) (by kernel_rfl) (by kernel_rfl) (by kernel_rfl)) ?_
  intro W base args ds gs before hval0 hW hcnd _
  have hval : ∀ (j : Nat) t v, Try.f12.params[j]? = some t → args[j]? = some v → Value.okWide Try.prog W .any base t v := hval0
  have hW' := hW
  obtain ⟨p, q, hA0, hV, rfl, hfz, hnd⟩ := hW
  have hA : DataW.TrodAll enc Try.prog W 0 (fun _ => true) true Try.f12.params.toList args.toList ds p := hA0
  rw [Try.params12] at hA hval
  obtain ⟨v0, vs0, d0, ds0, p0, q0, hargs, rfl, rfl, h0, r0⟩ := trodAll_cons hA
  obtain ⟨rfl, rfl, rfl⟩ := trodAll_nil r0
  obtain rfl : args = #[v0] := by cases args; simp_all
  obtain ⟨rfl, rfl⟩ := trodVars_none hV
  obtain ⟨a0, len0, cap0, rfl⟩ := okWide_slice Try.underlying24 (hval 0 24 v0 rfl rfl)
  have k0 := h0
  have lt0 : ∀ x ∈ p0, x.block < W.heap.size := by obtain ⟨m, hm⟩ := k0; exact DataW.trod_lt m _ _ _ hm
  obtain ⟨ga0, gc0⟩ : Drw.CodeAt W.heap.size W a0 len0 ∧ len0 ≤ maxLen := by
    obtain ⟨fuel, hf⟩ := h0
    exact Drw.open_code (by simpa [Value.cells] using hf)
  clear hA0 hval0
  refine (walk a0 len0 cap0 W gc0 ga0).mono fun e W' ⟨he, bel⟩ => ?_
  subst he
  exact ⟨_, rfl, _, _, _, [], _, [], hW', trodAll_mk1 (shut_bool Try.underlying4 _), (trodAll_cons_mk (Below.trod laidOut (by kernel_rfl) (of_decide_eq_true (by kernel_rfl)) k0 bel lt0) trodAll_mk0), rfl, bel.frame _, fun h => by cases h⟩
theorem over : Rows.fnAppendsRow.holds Try.pinned (OpenSpec.ofChange Rows.fnAppendsSpec) :=
  OpenClaim.holds_of_wide 12 Try.f12 rfl rfl rfl rfl rfl rfl rfl ⟨rfl, rfl, rfl, rfl, rfl⟩ rfl rfl rfl rfl rfl (by kernel_rfl) Try.func12 (by kernel_rfl)
    (of_decide_eq_true (by kernel_rfl)) (by unfold Func.isWrapper; first | (rw [if_pos (by decide +kernel)]; kernel_rfl) | (rw [if_neg (by decide +kernel)]; exact ⟨rfl, rfl⟩))
    (fun os started H enc _ => lifted os started H enc)
end FaL
theorem fnAppends_holds : Rows.FnAppendsSaid := FaL.over
#print axioms fnAppends_holds
end Go.Proofs.Ytiliahibnhfhoaa
