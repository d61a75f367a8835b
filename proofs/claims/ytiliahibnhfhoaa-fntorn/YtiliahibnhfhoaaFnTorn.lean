/- Whatever code of bytes is handed in, the law FnTorn answers true: behind a crash a beginning of the lines is there, and all that was sure; the bytes handed in read afterwards as before. No condition. -/
import Derived.Test.YtiliahibnhfhoaaRows
import Derived.ShutString
import Derived.ChangeOld
import Derived.ProofKit
import Derived.OpenShut
import Derived.Deep.CutRange
import Derived.Deep.RegionHeld3
import Derived.Test.YtiliahibnhfhoaaDrO
import Derived.Test.YtiliahibnhfhoaaJtB
import Derived.Test.YtiliahibnhfhoaaJdD
namespace Go.Proofs.Ytiliahibnhfhoaa
open Go.ChangeShapes Go.WideShapes Go.ChangeAt Go.RowKit
open Go.ChangeMaps (open_string shut_string)
set_option linter.unusedVariables false
namespace FtL
open Jn
set_option maxRecDepth 100000 in
set_option maxHeartbeats 16000000 in
theorem walk (a : Option Addr) (len cap : Nat) (w : World) (hl : len ≤ maxLen) (hc : Drw.CodeAt w.heap.size w a len) :
    Calls Try.prog 11 #[.slice a len cap] w fun e w' => e = .returned (.bool true) ∧ Below w.heap.size w w' := by
  have HC := hid hc
  clear hc
  by_cases q0 : (1048576 : Int) < (len : Int)
  · go_enter Try.func11, Try.ntmps11
    go_wp2_with (go_at_call 43; refine (Drw.big a len cap _).mono ?_; rintro e w9 ⟨rfl, hw9⟩; replace hw9 := hw9.symm; subst hw9)
    go_ret
    exact ⟨rfl, Below.refl _ _⟩
  have hln : len ≤ 1048576 := by omega
  go_enter Try.func11, Try.ntmps11
  go_wp2_with (go_at_call 43; refine (Drw.big a len cap _).mono ?_; rintro e w9 ⟨rfl, hw9⟩; replace hw9 := hw9.symm; subst hw9)
  refine (crashD len cap a _ hln HC.out).mono ?_
  rintro e w1 ⟨s, l, x1, k1, x2, k2, q, rfl, hj, hs, hl1, hq, hb1⟩
  have I0 : Jn.Hid (Inw w w1 [] (fun x => Jo x 0 (.slice x1 s.length k1) (.slice x2 l.length k2) s l)) := hid ⟨hb1, (fun p hp => by cases hp), hj.mono (Nat.zero_le _), (fun x y h hb => h.below hb (Nat.le_refl _))⟩
  have I1 := hid (I0.out.add #[.slice x1 s.length k1, .slice x2 l.length k2] 44)
  have HIM := hid (fun v1 v2 w' h1 h2 => implCrash w'.heap.size s l q v1 v2 w' (by omega) (by omega) (Nat.le_refl _) h1 h2)
  have HSP := hid (fun v1 v2 w' h1 h2 => specCrash w'.heap.size s l q v1 v2 w' (by omega) (by omega) (Nat.le_refl _) h1 h2)
  have HT : Jn.Hid (kC s l q = 0 → okL (kC s l q) (cutL s l q) = cutL s l q ∧ okL (kC s l q) [] = [] ∧ okN (kC s l q) (countN (cutL s l q) []) = countN (cutL s l q) [] ∧ TornF s l (cutL s l q) q) := hid (fun h => ⟨(ok_so h 0 _).2, (ok_so h 0 _).2, (ok_so h _ []).1, torn h⟩)
  clear I0 hb1 hj hq
  unfold CRPost JPost at HIM HSP
  generalize okN (kC s l q) (countN (cutL s l q) []) = kn at *
  generalize okL (kC s l q) (cutL s l q) = sp at *
  generalize okL (kC s l q) [] = lp at *
  generalize kC s l q = kc at *
  have j0 := blk_cell (I1.out.b _ (List.mem_cons_self ..)) (o := 0) (v := .slice x1 s.length k1) rfl
  have j1 := blk_cell (I1.out.b _ (List.mem_cons_self ..)) (o := 1) (v := .slice x2 l.length k2) rfl
  go_wp2_with fail
  refine (HIM.out _ _ _ I1.out.p.o1.at I1.out.p.o2.at).mono ?_
  rintro e w3 ⟨y1, m1, y2, m2, rfl, hjc, hb3⟩
  have I2 : Jn.Hid (Inw w (w3.alloc (.cells #[.int .i64 kc, .int .i64 (kn : Int), .slice y1 sp.length m1, .slice y2 lp.length m2] 49)) [(w3.heap.size, #[.int .i64 kc, .int .i64 (kn : Int), .slice y1 sp.length m1, .slice y2 lp.length m2], 49), (w1.heap.size, #[.slice x1 s.length k1, .slice x2 l.length k2], 44)] (fun x => Jo x 0 (.slice x1 s.length k1) (.slice x2 l.length k2) s l ∧ Jo x 0 (.slice y1 sp.length m1) (.slice y2 lp.length m2) sp lp)) := hid (((I1.out.below hb3).new ⟨(I1.out.below hb3).p, hjc.mono (Nat.zero_le _)⟩ (fun x y h hb => ⟨h.1.below hb (Nat.le_refl _), h.2.below hb (Nat.le_refl _)⟩)).add _ _)
  clear I1 hb3 hjc j0 j1
  have q0' := blk_cell (I2.out.b _ (List.mem_cons_self ..)) (o := 0) (v := .int .i64 kc) rfl
  have q1 := blk_cell (I2.out.b _ (List.mem_cons_self ..)) (o := 1) (v := .int .i64 (kn : Int)) rfl
  have q2 := blk_cell (I2.out.b _ (List.mem_cons_self ..)) (o := 2) (v := .slice y1 sp.length m1) rfl
  have q3 := blk_cell (I2.out.b _ (List.mem_cons_self ..)) (o := 3) (v := .slice y2 lp.length m2) rfl
  have j0 := blk_cell (I2.out.b _ (List.mem_cons_of_mem _ (List.mem_cons_self ..))) (o := 0) (v := .slice x1 s.length k1) rfl
  have j1 := blk_cell (I2.out.b _ (List.mem_cons_of_mem _ (List.mem_cons_self ..))) (o := 1) (v := .slice x2 l.length k2) rfl
  by_cases hz : kc = 0
  · have b0 : (kc != 0) = false := by simp [hz]
    obtain ⟨t1, t2, t3, TT⟩ := HT.out hz
    rw [← t1] at TT t3
    have hspl := TT.clen
    have hsl := TT.len
    have hcnt := TT.cnt
    have hf0 : jF sp lp = 0 := by rw [t2]; exact TT.fault
    have HLP : Jn.Hid (lp.length = 0) := hid (by rw [t2]; rfl)
    have hlp := HLP.out
    have HJF : Jn.Hid (∀ (B : Nat) (v1 v2 : Value) (w' : World), B ≤ w'.heap.size → At w' B v1 sp → At w' B v2 lp → Calls Try.prog 31 #[.agg #[v1, v2]] w' fun e w'' => e = .returned (.int .i64 0) ∧ Below w'.heap.size w' w'') := hid (fun B v1 v2 w' hB h1 h2 => by have h := implJFault B sp lp v1 v2 w' (by omega) (by omega) hB h1 h2; rw [hf0] at h; exact h)
    have HR1 := hid (fun v w' h => implRead w'.heap.size s v w' (by omega) (Nat.le_refl _) h)
    have HR2 : Jn.Hid (∀ (d : List UInt8) (B : Nat) (v : Value) (w' : World), d = s ++ l → B ≤ w'.heap.size → At w' B v d → Calls Try.prog 22 #[v] w' (QPost (s ++ l) w')) := hid (by intro d B v w' hd hB h; subst hd; exact implRead B (s ++ l) v w' (by rw [List.length_append]; omega) hB h)
    have HR3 := hid (fun v w' h => implRead w'.heap.size sp v w' (by omega) (Nat.le_refl _) h)
    unfold QPost at HR1 HR2 HR3
    have hsure := TT.sure
    have hall := TT.all
    have hlast := TT.last
    have HKN : Jn.Hid ((kn : Int) = ((linesL sp).length : Int)) := hid (by rw [t3, hcnt])
    have h3l : (linesL sp).length ≤ 1048576 := by
      rw [(lines_ok (by omega)).2.2]
      have := readL_count sp
      omega
    have HLAST := hid hlast
    have HSURE := hid hsure
    have HALL := hid hall
    clear TT t1 t2 t3 HT hf0 hcnt hlp hlast hsure hall
    generalize linesC s = d1 at *
    generalize linesB s = e1 at *
    generalize linesL s = ls1 at *
    generalize linesC (s ++ l) = d2 at *
    generalize linesB (s ++ l) = e2 at *
    generalize linesL (s ++ l) = ls2 at *
    generalize linesC sp = d3 at *
    generalize linesB sp = e3 at *
    generalize linesL sp = ls3 at *
    clear hz
    go_wp2_with fail
    refine (HR1.out _ _ I2.out.p.1.o1.at).mono ?_
    rintro e w4' ⟨a6, c6, rfl, ho6, hb6⟩
    have I4 := hid ((I2.out.below hb6).add #[.int .i64 d1, .bool e1, .slice a6 ls1.length c6] 32)
    clear I2 ho6 hb6 q0' q1 q2 q3 j0 j1
    have j0 := blk_cell (I4.out.b _ (List.mem_cons_of_mem _ (List.mem_cons_of_mem _ (List.mem_cons_self ..)))) (o := 0) (v := .slice x1 s.length k1) rfl
    have j1 := blk_cell (I4.out.b _ (List.mem_cons_of_mem _ (List.mem_cons_of_mem _ (List.mem_cons_self ..)))) (o := 1) (v := .slice x2 l.length k2) rfl
    have hgj := blk_lt (I4.out.b _ (List.mem_cons_of_mem _ (List.mem_cons_of_mem _ (List.mem_cons_self ..))))
    go_upto_region 8 with fail
    obtain ⟨w4, hw4⟩ : ∃ w4, w4 = w4'.alloc (.cells #[.int .i64 d1, .bool e1, .slice a6 ls1.length c6] 32) := ⟨_, rfl⟩
    obtain ⟨gs, hgs⟩ : ∃ gs, gs = w4'.heap.size := ⟨_, rfl⟩
    obtain ⟨gc, hgc'⟩ : ∃ gc, gc = w3.heap.size := ⟨_, rfl⟩
    obtain ⟨gj, hgj'⟩ : ∃ gj, gj = w1.heap.size := ⟨_, rfl⟩
    rw [← hw4, ← hgs, ← hgc', ← hgj'] at I4
    rw [← hw4, ← hgj'] at j0 j1 hgj
    rw [← hw4, ← hgs, ← hgc', ← hgj']
    clear hw4 hgs hgc' hgj'
    go_cut [7] from 34 to 41 (fun g7 wx => ∃ (ga : Nat) (a7 : Option Addr) (c7 : Nat), g7 = .pointer (some ⟨ga, 0, none⟩) ∧ Jn.Hid (Inw w wx [(ga, #[.int .i64 d2, .bool e2, .slice a7 ls2.length c7], 32), (gs, #[.int .i64 d1, .bool e1, .slice a6 ls1.length c6], 32), (gc, #[.int .i64 kc, .int .i64 (kn : Int), .slice y1 sp.length m1, .slice y2 lp.length m2], 49), (gj, #[.slice x1 s.length k1, .slice x2 l.length k2], 44)] (fun x => (Jo x 0 (.slice x1 s.length k1) (.slice x2 l.length k2) s l ∧ Jo x 0 (.slice y1 sp.length m1) (.slice y2 lp.length m2) sp lp) ∧ Jn.Os x 0 (.slice a7 ls2.length c7) ls2)))
    case first =>
      have HM0' : AM w4 w4.drew (.slice none 0 0) [] := ⟨(Below.refl _ w4).drew, ob_nil _ _⟩
      have HM0 := hid HM0'
      clear HM0'
      refine wp_region_held_drew (S := fun wx => Below w4.heap.size w4 wx) (by kernel_rfl) HM0.out.hb (fun hHeld => ?_)
      obtain ⟨wd, hwd⟩ : ∃ wd, wd = w4.drew := ⟨_, rfl⟩
      rw [← hwd] at HM0
      rw [← hwd]
      clear hwd
      have hbd := HM0.out.hb
      refine wpAnyH_take (i := 1) (oi := { dst := some 35, op := Go.Op.fieldAddr 44 (Go.Operand.tmp 3) 0, type := 0, pos := "laws.go:598", after := #[], guard := none }) (v := .pointer (some ⟨gj, 0, none⟩)) rfl (by kernel_rfl) (by kernel_rfl) (by kernel_rfl) (fun _ _ _ h => h) (Or.inl ⟨by rfl, by intro w hSw; (try dsimp only at hSw); go_simp⟩) (by assumption) ?_
      simp only [Act.put, List.setIfInBounds_toArray, List.set_cons_zero, List.set_cons_succ]
      refine wpAnyH_take (i := 2) (oi := { dst := some 36, op := Go.Op.load 24 (Go.Operand.tmp 35), type := 24, pos := "laws.go:598", after := #[{ on := 1, ground := Go.Ground.data }], guard := none }) (v := .slice x1 s.length k1) rfl (by kernel_rfl) (by kernel_rfl) (by kernel_rfl) (fun _ _ _ h => h) (Or.inl ⟨by rfl, by intro w hSw; (try dsimp only at hSw); have ca := kept_cell hSw hgj j0; go_simp⟩) (by assumption) ?_
      simp only [Act.put, List.setIfInBounds_toArray, List.set_cons_zero, List.set_cons_succ]
      refine wpAnyH_take (i := 4) (oi := { dst := some 38, op := Go.Op.fieldAddr 44 (Go.Operand.tmp 3) 1, type := 0, pos := "laws.go:598", after := #[], guard := none }) (v := .pointer (some ⟨gj, 1, none⟩)) rfl (by kernel_rfl) (by kernel_rfl) (by kernel_rfl) (fun _ _ _ h => h) (Or.inl ⟨by rfl, by intro w hSw; (try dsimp only at hSw); go_simp⟩) (by assumption) ?_
      simp only [Act.put, List.setIfInBounds_toArray, List.set_cons_zero, List.set_cons_succ]
      refine wpAnyH_take (i := 5) (oi := { dst := some 39, op := Go.Op.load 24 (Go.Operand.tmp 38), type := 24, pos := "laws.go:598", after := #[{ on := 4, ground := Go.Ground.data }], guard := none }) (v := .slice x2 l.length k2) rfl (by kernel_rfl) (by kernel_rfl) (by kernel_rfl) (fun _ _ _ h => h) (Or.inl ⟨by rfl, by intro w hSw; (try dsimp only at hSw); have ca := kept_cell hSw hgj j1; go_simp⟩) (by assumption) ?_
      simp only [Act.put, List.setIfInBounds_toArray, List.set_cons_zero, List.set_cons_succ]
      refine wpAnyH_ready (rs := [0, 8]) (by kernel_rfl) (by simp) ?_
      refine AllReadyH.cons (o := { dst := some 34, op := Go.Op.buildSlice 24 0 #[], type := 24, pos := "laws.go:598", after := #[], guard := none }) rfl (fun K hK => ?_) (AllReadyH.cons (o := { dst := some 7, op := Go.Op.alloc 32, type := 0, pos := "laws.go:598", after := #[], guard := none }) rfl (fun K hK => ?_) AllReadyH.nil)
      · go_simp
        obtain ⟨t1, hw1⟩ : ∃ wn, wn = wd.alloc (.cells #[] 5) := ⟨_, rfl⟩
        rw [← hw1]
        have HM1 := hid (HM0.out.made hw1)
        clear hw1
        refine hK.out _ _ HM1.out.hb (fun hHeld => ?_)
        clear hK K
        try simp only [Act.put, List.setIfInBounds_toArray, List.set_cons_zero, List.set_cons_succ]
        refine wpAnyH_ready (rs := [3, 8]) (by kernel_rfl) (by simp) ?_
        refine AllReadyH.cons (o := { dst := some 37, op := Go.Op.call { callee := Go.Callee.builtin Go.Builtin.append, args := #[Go.Operand.tmp 34, Go.Operand.tmp 36], argTypes := #[24, 24] }, type := 24, pos := "laws.go:598", after := #[{ on := 0, ground := Go.Ground.data }, { on := 2, ground := Go.Ground.data }], guard := none }) rfl (fun K hK => ?_) (AllReadyH.cons (o := { dst := some 7, op := Go.Op.alloc 32, type := 0, pos := "laws.go:598", after := #[], guard := none }) rfl (fun K hK => ?_) AllReadyH.nil)
        · refine stepL _ (by rfl) _ _ (by rfl) w4.heap.size (.slice (some ⟨wd.heap.size, 0, none⟩) 0 0) [] (by rfl) HM1.out.o (.slice x1 s.length k1) s _ (by rfl) ((I4.out.below HM1.out.hb).p.1.o1.at) (by simp; omega) HM1.out.hb.size ?_
          intro p22 a22 c22 t2 hG
          have HM2 := hid (HM1.out.grow hG)
          obtain rfl : s = p22 := by rw [hG.eq, List.nil_append]
          clear hG
          refine hK.out _ _ HM2.out.hb (fun hHeld => ?_)
          clear hK K
          try simp only [Act.put, List.setIfInBounds_toArray, List.set_cons_zero, List.set_cons_succ]
          refine wpAnyH_ready (rs := [6, 8]) (by kernel_rfl) (by simp) ?_
          refine AllReadyH.cons (o := { dst := some 40, op := Go.Op.call { callee := Go.Callee.builtin Go.Builtin.append, args := #[Go.Operand.tmp 37, Go.Operand.tmp 39], argTypes := #[24, 24] }, type := 24, pos := "laws.go:598", after := #[{ on := 3, ground := Go.Ground.data }, { on := 5, ground := Go.Ground.data }, { on := 3, ground := Go.Ground.chain }], guard := none }) rfl (fun K hK => ?_) (AllReadyH.cons (o := { dst := some 7, op := Go.Op.alloc 32, type := 0, pos := "laws.go:598", after := #[], guard := none }) rfl (fun K hK => ?_) AllReadyH.nil)
          · refine stepL _ (by rfl) _ _ (by rfl) w4.heap.size (.slice a22 s.length c22) s (by rfl) HM2.out.o (.slice x2 l.length k2) l _ (by rfl) ((I4.out.below HM2.out.hb).p.1.o2.at) (by omega) HM2.out.hb.size ?_
            intro p23 a23 c23 t3 hG
            have HM3 := hid (HM2.out.grow hG)
            have HE : Jn.Hid (p23 = s ++ l) := hid hG.eq
            clear hG
            refine hK.out _ _ HM3.out.hb (fun hHeld => ?_)
            clear hK K
            try simp only [Act.put, List.setIfInBounds_toArray, List.set_cons_zero, List.set_cons_succ]
            refine wpAnyH_ready (rs := [7, 8]) (by kernel_rfl) (by simp) ?_
            refine AllReadyH.cons (o := { dst := some 41, op := Go.Op.call { callee := Go.Callee.value (Go.Operand.func 22), args := #[Go.Operand.tmp 40], argTypes := #[24] }, type := 32, pos := "laws.go:598", after := #[{ on := 6, ground := Go.Ground.data }, { on := 6, ground := Go.Ground.chain }], guard := none }) rfl (fun K hK => ?_) (AllReadyH.cons (o := { dst := some 7, op := Go.Op.alloc 32, type := 0, pos := "laws.go:598", after := #[], guard := none }) rfl (fun K hK => ?_) AllReadyH.nil)
            · go_simp
              go_at_call 22
              refine (HR2.out _ _ _ _ HE.out (Nat.le_refl _) HM3.out.o.at).mono ?_
              rintro z t4 ⟨a7, c7, rfl, hos, hb7⟩
              have HM4 := hid (HM3.out.below hb7)
              have HOS := hid hos
              clear hos hb7
              go_wp2_with fail
              refine hK.out _ _ HM4.out.hb (fun hHeld => ?_)
              clear hK K
              try simp only [Act.put, List.setIfInBounds_toArray, List.set_cons_zero, List.set_cons_succ]
              refine wpAnyH_ready (rs := [8]) (by kernel_rfl) (by simp) ?_
              refine AllReadyH.cons (o := { dst := some 7, op := Go.Op.alloc 32, type := 0, pos := "laws.go:598", after := #[], guard := none }) rfl (fun K hK => ?_) AllReadyH.nil
              go_simp
              obtain ⟨t5, hw5⟩ : ∃ wn, wn = t4.alloc (.cells #[.int .i64 0, .bool false, .slice none 0 0] 32) := ⟨_, rfl⟩
              rw [← hw5]
              have HM5 := hid (HM4.out.var hw5)
              have HOS1 := hid (HOS.out.below (show Below t4.heap.size t4 t5 by rw [hw5]; exact (Below.refl _ t4).alloc (Nat.le_refl _) _) (Nat.le_refl _))
              have HNE : Jn.Hid (∀ b, (Value.slice a7 ls2.length c7).ownBlock = some b → b ≠ t4.heap.size) := hid (fun b e => by have := (HOS.out.lt b e).2; omega)
              clear HOS
              have HOS := HOS1
              clear HOS1
              clear hw5
              refine hK.out _ _ HM5.out.hb (fun hHeld => ?_)
              clear hK K
              try simp only [Act.put, List.setIfInBounds_toArray, List.set_cons_zero, List.set_cons_succ]
              refine wpAnyH_ready (rs := [9]) (by kernel_rfl) (by simp) ?_
              refine AllReadyH.cons (o := { dst := none, op := Go.Op.store 32 (Go.Operand.tmp 7) (Go.Operand.tmp 41), type := 0, pos := "laws.go:598", after := #[{ on := 8, ground := Go.Ground.data }, { on := 7, ground := Go.Ground.data }, { on := 7, ground := Go.Ground.chain }, { on := 0, ground := Go.Ground.phase }, { on := 1, ground := Go.Ground.phase }, { on := 2, ground := Go.Ground.phase }, { on := 3, ground := Go.Ground.phase }, { on := 4, ground := Go.Ground.phase }, { on := 5, ground := Go.Ground.phase }, { on := 6, ground := Go.Ground.phase }, { on := 7, ground := Go.Ground.phase }, { on := 8, ground := Go.Ground.phase }], guard := none }) rfl (fun K hK => ?_) AllReadyH.nil
              have z0 := blk_cell HM5.out.blk (o := 0) (v := .int .i64 0) rfl
              have z1 := blk_cell HM5.out.blk (o := 1) (v := .bool false) rfl
              have z2 := blk_cell HM5.out.blk (o := 2) (v := .slice none 0 0) rfl
              have f0 := blk_free (o := 0) HM5.out.blk
              have f1 := blk_free (o := 1) HM5.out.blk
              have f2 := blk_free (o := 2) HM5.out.blk
              have HF := HM5.out.close I4.out HOS.out HNE.out d2 e2
              go_simp
              refine hK.out _ _ HF.2 (fun hHeld => ?_)
              clear hK K
              try simp only [Act.put, List.setIfInBounds_toArray, List.set_cons_zero, List.set_cons_succ]
              refine wpAnyH_done (by kernel_rfl) ?_ _
              go_wp2_with fail
              go_meet
              exact ⟨_, _, _, rfl, hid HF.1⟩
            · go_simp
              obtain ⟨t6, hw6⟩ : ∃ wn, wn = t3.alloc (.cells #[.int .i64 0, .bool false, .slice none 0 0] 32) := ⟨_, rfl⟩
              rw [← hw6]
              have HM6 := hid (HM3.out.var hw6)
              clear hw6
              refine hK.out _ _ HM6.out.hb (fun hHeld => ?_)
              clear hK K
              try simp only [Act.put, List.setIfInBounds_toArray, List.set_cons_zero, List.set_cons_succ]
              refine wpAnyH_ready (rs := [7]) (by kernel_rfl) (by simp) ?_
              refine AllReadyH.cons (o := { dst := some 41, op := Go.Op.call { callee := Go.Callee.value (Go.Operand.func 22), args := #[Go.Operand.tmp 40], argTypes := #[24] }, type := 32, pos := "laws.go:598", after := #[{ on := 6, ground := Go.Ground.data }, { on := 6, ground := Go.Ground.chain }], guard := none }) rfl (fun K hK => ?_) AllReadyH.nil
              go_simp
              go_at_call 22
              refine (HR2.out _ _ _ _ HE.out (Nat.le_refl _) HM6.out.o.at).mono ?_
              rintro z t7 ⟨a7, c7, rfl, hos, hb7⟩
              have HM7 := hid (HM6.out.below hb7)
              have HOS := hid hos
              have HNE : Jn.Hid (∀ b, (Value.slice a7 ls2.length c7).ownBlock = some b → b ≠ t3.heap.size) := hid (fun b e => by have := (hos.lt b e).1; have := blk_lt HM6.out.blk; omega)
              clear hos hb7
              go_wp2_with fail
              refine hK.out _ _ HM7.out.hb (fun hHeld => ?_)
              clear hK K
              try simp only [Act.put, List.setIfInBounds_toArray, List.set_cons_zero, List.set_cons_succ]
              refine wpAnyH_ready (rs := [9]) (by kernel_rfl) (by simp) ?_
              refine AllReadyH.cons (o := { dst := none, op := Go.Op.store 32 (Go.Operand.tmp 7) (Go.Operand.tmp 41), type := 0, pos := "laws.go:598", after := #[{ on := 8, ground := Go.Ground.data }, { on := 7, ground := Go.Ground.data }, { on := 7, ground := Go.Ground.chain }, { on := 0, ground := Go.Ground.phase }, { on := 1, ground := Go.Ground.phase }, { on := 2, ground := Go.Ground.phase }, { on := 3, ground := Go.Ground.phase }, { on := 4, ground := Go.Ground.phase }, { on := 5, ground := Go.Ground.phase }, { on := 6, ground := Go.Ground.phase }, { on := 7, ground := Go.Ground.phase }, { on := 8, ground := Go.Ground.phase }], guard := none }) rfl (fun K hK => ?_) AllReadyH.nil
              have z0 := blk_cell HM7.out.blk (o := 0) (v := .int .i64 0) rfl
              have z1 := blk_cell HM7.out.blk (o := 1) (v := .bool false) rfl
              have z2 := blk_cell HM7.out.blk (o := 2) (v := .slice none 0 0) rfl
              have f0 := blk_free (o := 0) HM7.out.blk
              have f1 := blk_free (o := 1) HM7.out.blk
              have f2 := blk_free (o := 2) HM7.out.blk
              have HF := HM7.out.close I4.out HOS.out HNE.out d2 e2
              go_simp
              refine hK.out _ _ HF.2 (fun hHeld => ?_)
              clear hK K
              try simp only [Act.put, List.setIfInBounds_toArray, List.set_cons_zero, List.set_cons_succ]
              refine wpAnyH_done (by kernel_rfl) ?_ _
              go_wp2_with fail
              go_meet
              exact ⟨_, _, _, rfl, hid HF.1⟩
          · go_simp
            obtain ⟨t8, hw8⟩ : ∃ wn, wn = t2.alloc (.cells #[.int .i64 0, .bool false, .slice none 0 0] 32) := ⟨_, rfl⟩
            rw [← hw8]
            have HM8 := hid (HM2.out.var hw8)
            clear hw8
            refine hK.out _ _ HM8.out.hb (fun hHeld => ?_)
            clear hK K
            try simp only [Act.put, List.setIfInBounds_toArray, List.set_cons_zero, List.set_cons_succ]
            refine wpAnyH_ready (rs := [6]) (by kernel_rfl) (by simp) ?_
            refine AllReadyH.cons (o := { dst := some 40, op := Go.Op.call { callee := Go.Callee.builtin Go.Builtin.append, args := #[Go.Operand.tmp 37, Go.Operand.tmp 39], argTypes := #[24, 24] }, type := 24, pos := "laws.go:598", after := #[{ on := 3, ground := Go.Ground.data }, { on := 5, ground := Go.Ground.data }, { on := 3, ground := Go.Ground.chain }], guard := none }) rfl (fun K hK => ?_) AllReadyH.nil
            refine stepL _ (by rfl) _ _ (by rfl) w4.heap.size (.slice a22 s.length c22) s (by rfl) HM8.out.o (.slice x2 l.length k2) l _ (by rfl) ((I4.out.below HM8.out.hb).p.1.o2.at) (by omega) HM8.out.hb.size ?_
            intro p29 a29 c29 t9 hG
            have HM9 := hid (HM8.out.grow hG)
            have HE : Jn.Hid (p29 = s ++ l) := hid hG.eq
            clear hG
            refine hK.out _ _ HM9.out.hb (fun hHeld => ?_)
            clear hK K
            try simp only [Act.put, List.setIfInBounds_toArray, List.set_cons_zero, List.set_cons_succ]
            refine wpAnyH_ready (rs := [7]) (by kernel_rfl) (by simp) ?_
            refine AllReadyH.cons (o := { dst := some 41, op := Go.Op.call { callee := Go.Callee.value (Go.Operand.func 22), args := #[Go.Operand.tmp 40], argTypes := #[24] }, type := 32, pos := "laws.go:598", after := #[{ on := 6, ground := Go.Ground.data }, { on := 6, ground := Go.Ground.chain }], guard := none }) rfl (fun K hK => ?_) AllReadyH.nil
            go_simp
            go_at_call 22
            refine (HR2.out _ _ _ _ HE.out (Nat.le_refl _) HM9.out.o.at).mono ?_
            rintro z t10 ⟨a7, c7, rfl, hos, hb7⟩
            have HM10 := hid (HM9.out.below hb7)
            have HOS := hid hos
            have HNE : Jn.Hid (∀ b, (Value.slice a7 ls2.length c7).ownBlock = some b → b ≠ t2.heap.size) := hid (fun b e => by have := (hos.lt b e).1; have := blk_lt HM9.out.blk; omega)
            clear hos hb7
            go_wp2_with fail
            refine hK.out _ _ HM10.out.hb (fun hHeld => ?_)
            clear hK K
            try simp only [Act.put, List.setIfInBounds_toArray, List.set_cons_zero, List.set_cons_succ]
            refine wpAnyH_ready (rs := [9]) (by kernel_rfl) (by simp) ?_
            refine AllReadyH.cons (o := { dst := none, op := Go.Op.store 32 (Go.Operand.tmp 7) (Go.Operand.tmp 41), type := 0, pos := "laws.go:598", after := #[{ on := 8, ground := Go.Ground.data }, { on := 7, ground := Go.Ground.data }, { on := 7, ground := Go.Ground.chain }, { on := 0, ground := Go.Ground.phase }, { on := 1, ground := Go.Ground.phase }, { on := 2, ground := Go.Ground.phase }, { on := 3, ground := Go.Ground.phase }, { on := 4, ground := Go.Ground.phase }, { on := 5, ground := Go.Ground.phase }, { on := 6, ground := Go.Ground.phase }, { on := 7, ground := Go.Ground.phase }, { on := 8, ground := Go.Ground.phase }], guard := none }) rfl (fun K hK => ?_) AllReadyH.nil
            have z0 := blk_cell HM10.out.blk (o := 0) (v := .int .i64 0) rfl
            have z1 := blk_cell HM10.out.blk (o := 1) (v := .bool false) rfl
            have z2 := blk_cell HM10.out.blk (o := 2) (v := .slice none 0 0) rfl
            have f0 := blk_free (o := 0) HM10.out.blk
            have f1 := blk_free (o := 1) HM10.out.blk
            have f2 := blk_free (o := 2) HM10.out.blk
            have HF := HM10.out.close I4.out HOS.out HNE.out d2 e2
            go_simp
            refine hK.out _ _ HF.2 (fun hHeld => ?_)
            clear hK K
            try simp only [Act.put, List.setIfInBounds_toArray, List.set_cons_zero, List.set_cons_succ]
            refine wpAnyH_done (by kernel_rfl) ?_ _
            go_wp2_with fail
            go_meet
            exact ⟨_, _, _, rfl, hid HF.1⟩
        · go_simp
          obtain ⟨t11, hw11⟩ : ∃ wn, wn = t1.alloc (.cells #[.int .i64 0, .bool false, .slice none 0 0] 32) := ⟨_, rfl⟩
          rw [← hw11]
          have HM11 := hid (HM1.out.var hw11)
          clear hw11
          refine hK.out _ _ HM11.out.hb (fun hHeld => ?_)
          clear hK K
          try simp only [Act.put, List.setIfInBounds_toArray, List.set_cons_zero, List.set_cons_succ]
          refine wpAnyH_ready (rs := [3]) (by kernel_rfl) (by simp) ?_
          refine AllReadyH.cons (o := { dst := some 37, op := Go.Op.call { callee := Go.Callee.builtin Go.Builtin.append, args := #[Go.Operand.tmp 34, Go.Operand.tmp 36], argTypes := #[24, 24] }, type := 24, pos := "laws.go:598", after := #[{ on := 0, ground := Go.Ground.data }, { on := 2, ground := Go.Ground.data }], guard := none }) rfl (fun K hK => ?_) AllReadyH.nil
          refine stepL _ (by rfl) _ _ (by rfl) w4.heap.size (.slice (some ⟨wd.heap.size, 0, none⟩) 0 0) [] (by rfl) HM11.out.o (.slice x1 s.length k1) s _ (by rfl) ((I4.out.below HM11.out.hb).p.1.o1.at) (by simp; omega) HM11.out.hb.size ?_
          intro p32 a32 c32 t12 hG
          have HM12 := hid (HM11.out.grow hG)
          obtain rfl : s = p32 := by rw [hG.eq, List.nil_append]
          clear hG
          refine hK.out _ _ HM12.out.hb (fun hHeld => ?_)
          clear hK K
          try simp only [Act.put, List.setIfInBounds_toArray, List.set_cons_zero, List.set_cons_succ]
          refine wpAnyH_ready (rs := [6]) (by kernel_rfl) (by simp) ?_
          refine AllReadyH.cons (o := { dst := some 40, op := Go.Op.call { callee := Go.Callee.builtin Go.Builtin.append, args := #[Go.Operand.tmp 37, Go.Operand.tmp 39], argTypes := #[24, 24] }, type := 24, pos := "laws.go:598", after := #[{ on := 3, ground := Go.Ground.data }, { on := 5, ground := Go.Ground.data }, { on := 3, ground := Go.Ground.chain }], guard := none }) rfl (fun K hK => ?_) AllReadyH.nil
          refine stepL _ (by rfl) _ _ (by rfl) w4.heap.size (.slice a32 s.length c32) s (by rfl) HM12.out.o (.slice x2 l.length k2) l _ (by rfl) ((I4.out.below HM12.out.hb).p.1.o2.at) (by omega) HM12.out.hb.size ?_
          intro p33 a33 c33 t13 hG
          have HM13 := hid (HM12.out.grow hG)
          have HE : Jn.Hid (p33 = s ++ l) := hid hG.eq
          clear hG
          refine hK.out _ _ HM13.out.hb (fun hHeld => ?_)
          clear hK K
          try simp only [Act.put, List.setIfInBounds_toArray, List.set_cons_zero, List.set_cons_succ]
          refine wpAnyH_ready (rs := [7]) (by kernel_rfl) (by simp) ?_
          refine AllReadyH.cons (o := { dst := some 41, op := Go.Op.call { callee := Go.Callee.value (Go.Operand.func 22), args := #[Go.Operand.tmp 40], argTypes := #[24] }, type := 32, pos := "laws.go:598", after := #[{ on := 6, ground := Go.Ground.data }, { on := 6, ground := Go.Ground.chain }], guard := none }) rfl (fun K hK => ?_) AllReadyH.nil
          go_simp
          go_at_call 22
          refine (HR2.out _ _ _ _ HE.out (Nat.le_refl _) HM13.out.o.at).mono ?_
          rintro z t14 ⟨a7, c7, rfl, hos, hb7⟩
          have HM14 := hid (HM13.out.below hb7)
          have HOS := hid hos
          have HNE : Jn.Hid (∀ b, (Value.slice a7 ls2.length c7).ownBlock = some b → b ≠ t1.heap.size) := hid (fun b e => by have := (hos.lt b e).1; have := blk_lt HM13.out.blk; omega)
          clear hos hb7
          go_wp2_with fail
          refine hK.out _ _ HM14.out.hb (fun hHeld => ?_)
          clear hK K
          try simp only [Act.put, List.setIfInBounds_toArray, List.set_cons_zero, List.set_cons_succ]
          refine wpAnyH_ready (rs := [9]) (by kernel_rfl) (by simp) ?_
          refine AllReadyH.cons (o := { dst := none, op := Go.Op.store 32 (Go.Operand.tmp 7) (Go.Operand.tmp 41), type := 0, pos := "laws.go:598", after := #[{ on := 8, ground := Go.Ground.data }, { on := 7, ground := Go.Ground.data }, { on := 7, ground := Go.Ground.chain }, { on := 0, ground := Go.Ground.phase }, { on := 1, ground := Go.Ground.phase }, { on := 2, ground := Go.Ground.phase }, { on := 3, ground := Go.Ground.phase }, { on := 4, ground := Go.Ground.phase }, { on := 5, ground := Go.Ground.phase }, { on := 6, ground := Go.Ground.phase }, { on := 7, ground := Go.Ground.phase }, { on := 8, ground := Go.Ground.phase }], guard := none }) rfl (fun K hK => ?_) AllReadyH.nil
          have z0 := blk_cell HM14.out.blk (o := 0) (v := .int .i64 0) rfl
          have z1 := blk_cell HM14.out.blk (o := 1) (v := .bool false) rfl
          have z2 := blk_cell HM14.out.blk (o := 2) (v := .slice none 0 0) rfl
          have f0 := blk_free (o := 0) HM14.out.blk
          have f1 := blk_free (o := 1) HM14.out.blk
          have f2 := blk_free (o := 2) HM14.out.blk
          have HF := HM14.out.close I4.out HOS.out HNE.out d2 e2
          go_simp
          refine hK.out _ _ HF.2 (fun hHeld => ?_)
          clear hK K
          try simp only [Act.put, List.setIfInBounds_toArray, List.set_cons_zero, List.set_cons_succ]
          refine wpAnyH_done (by kernel_rfl) ?_ _
          go_wp2_with fail
          go_meet
          exact ⟨_, _, _, rfl, hid HF.1⟩
      · go_simp
        obtain ⟨t15, hw15⟩ : ∃ wn, wn = wd.alloc (.cells #[.int .i64 0, .bool false, .slice none 0 0] 32) := ⟨_, rfl⟩
        rw [← hw15]
        have HM15 := hid (HM0.out.var hw15)
        clear hw15
        refine hK.out _ _ HM15.out.hb (fun hHeld => ?_)
        clear hK K
        try simp only [Act.put, List.setIfInBounds_toArray, List.set_cons_zero, List.set_cons_succ]
        refine wpAnyH_ready (rs := [0]) (by kernel_rfl) (by simp) ?_
        refine AllReadyH.cons (o := { dst := some 34, op := Go.Op.buildSlice 24 0 #[], type := 24, pos := "laws.go:598", after := #[], guard := none }) rfl (fun K hK => ?_) AllReadyH.nil
        go_simp
        obtain ⟨t16, hw16⟩ : ∃ wn, wn = t15.alloc (.cells #[] 5) := ⟨_, rfl⟩
        rw [← hw16]
        have HM16 := hid (HM15.out.made hw16)
        clear hw16
        refine hK.out _ _ HM16.out.hb (fun hHeld => ?_)
        clear hK K
        try simp only [Act.put, List.setIfInBounds_toArray, List.set_cons_zero, List.set_cons_succ]
        refine wpAnyH_ready (rs := [3]) (by kernel_rfl) (by simp) ?_
        refine AllReadyH.cons (o := { dst := some 37, op := Go.Op.call { callee := Go.Callee.builtin Go.Builtin.append, args := #[Go.Operand.tmp 34, Go.Operand.tmp 36], argTypes := #[24, 24] }, type := 24, pos := "laws.go:598", after := #[{ on := 0, ground := Go.Ground.data }, { on := 2, ground := Go.Ground.data }], guard := none }) rfl (fun K hK => ?_) AllReadyH.nil
        refine stepL _ (by rfl) _ _ (by rfl) w4.heap.size (.slice (some ⟨t15.heap.size, 0, none⟩) 0 0) [] (by rfl) HM16.out.o (.slice x1 s.length k1) s _ (by rfl) ((I4.out.below HM16.out.hb).p.1.o1.at) (by simp; omega) HM16.out.hb.size ?_
        intro p37 a37 c37 t17 hG
        have HM17 := hid (HM16.out.grow hG)
        obtain rfl : s = p37 := by rw [hG.eq, List.nil_append]
        clear hG
        refine hK.out _ _ HM17.out.hb (fun hHeld => ?_)
        clear hK K
        try simp only [Act.put, List.setIfInBounds_toArray, List.set_cons_zero, List.set_cons_succ]
        refine wpAnyH_ready (rs := [6]) (by kernel_rfl) (by simp) ?_
        refine AllReadyH.cons (o := { dst := some 40, op := Go.Op.call { callee := Go.Callee.builtin Go.Builtin.append, args := #[Go.Operand.tmp 37, Go.Operand.tmp 39], argTypes := #[24, 24] }, type := 24, pos := "laws.go:598", after := #[{ on := 3, ground := Go.Ground.data }, { on := 5, ground := Go.Ground.data }, { on := 3, ground := Go.Ground.chain }], guard := none }) rfl (fun K hK => ?_) AllReadyH.nil
        refine stepL _ (by rfl) _ _ (by rfl) w4.heap.size (.slice a37 s.length c37) s (by rfl) HM17.out.o (.slice x2 l.length k2) l _ (by rfl) ((I4.out.below HM17.out.hb).p.1.o2.at) (by omega) HM17.out.hb.size ?_
        intro p38 a38 c38 t18 hG
        have HM18 := hid (HM17.out.grow hG)
        have HE : Jn.Hid (p38 = s ++ l) := hid hG.eq
        clear hG
        refine hK.out _ _ HM18.out.hb (fun hHeld => ?_)
        clear hK K
        try simp only [Act.put, List.setIfInBounds_toArray, List.set_cons_zero, List.set_cons_succ]
        refine wpAnyH_ready (rs := [7]) (by kernel_rfl) (by simp) ?_
        refine AllReadyH.cons (o := { dst := some 41, op := Go.Op.call { callee := Go.Callee.value (Go.Operand.func 22), args := #[Go.Operand.tmp 40], argTypes := #[24] }, type := 32, pos := "laws.go:598", after := #[{ on := 6, ground := Go.Ground.data }, { on := 6, ground := Go.Ground.chain }], guard := none }) rfl (fun K hK => ?_) AllReadyH.nil
        go_simp
        go_at_call 22
        refine (HR2.out _ _ _ _ HE.out (Nat.le_refl _) HM18.out.o.at).mono ?_
        rintro z t19 ⟨a7, c7, rfl, hos, hb7⟩
        have HM19 := hid (HM18.out.below hb7)
        have HOS := hid hos
        have HNE : Jn.Hid (∀ b, (Value.slice a7 ls2.length c7).ownBlock = some b → b ≠ wd.heap.size) := hid (fun b e => by have := (hos.lt b e).1; have := blk_lt HM18.out.blk; omega)
        clear hos hb7
        go_wp2_with fail
        refine hK.out _ _ HM19.out.hb (fun hHeld => ?_)
        clear hK K
        try simp only [Act.put, List.setIfInBounds_toArray, List.set_cons_zero, List.set_cons_succ]
        refine wpAnyH_ready (rs := [9]) (by kernel_rfl) (by simp) ?_
        refine AllReadyH.cons (o := { dst := none, op := Go.Op.store 32 (Go.Operand.tmp 7) (Go.Operand.tmp 41), type := 0, pos := "laws.go:598", after := #[{ on := 8, ground := Go.Ground.data }, { on := 7, ground := Go.Ground.data }, { on := 7, ground := Go.Ground.chain }, { on := 0, ground := Go.Ground.phase }, { on := 1, ground := Go.Ground.phase }, { on := 2, ground := Go.Ground.phase }, { on := 3, ground := Go.Ground.phase }, { on := 4, ground := Go.Ground.phase }, { on := 5, ground := Go.Ground.phase }, { on := 6, ground := Go.Ground.phase }, { on := 7, ground := Go.Ground.phase }, { on := 8, ground := Go.Ground.phase }], guard := none }) rfl (fun K hK => ?_) AllReadyH.nil
        have z0 := blk_cell HM19.out.blk (o := 0) (v := .int .i64 0) rfl
        have z1 := blk_cell HM19.out.blk (o := 1) (v := .bool false) rfl
        have z2 := blk_cell HM19.out.blk (o := 2) (v := .slice none 0 0) rfl
        have f0 := blk_free (o := 0) HM19.out.blk
        have f1 := blk_free (o := 1) HM19.out.blk
        have f2 := blk_free (o := 2) HM19.out.blk
        have HF := HM19.out.close I4.out HOS.out HNE.out d2 e2
        go_simp
        refine hK.out _ _ HF.2 (fun hHeld => ?_)
        clear hK K
        try simp only [Act.put, List.setIfInBounds_toArray, List.set_cons_zero, List.set_cons_succ]
        refine wpAnyH_done (by kernel_rfl) ?_ _
        go_wp2_with fail
        go_meet
        exact ⟨_, _, _, rfl, hid HF.1⟩
    case rest =>
      obtain ⟨ga, a7, c7, rfl, I7⟩ := hcut
      clear I4 j0 j1 hgj HR1 HR2
      have q2 := blk_cell (I7.out.b _ (List.mem_cons_of_mem _ (List.mem_cons_of_mem _ (List.mem_cons_self ..)))) (o := 2) (v := .slice y1 sp.length m1) rfl
      go_wp2_with fail
      refine (HR3.out _ _ I7.out.p.1.2.o1.at).mono ?_
      rintro e w8 ⟨a8, c8, rfl, ho8, hb8⟩
      have I6 := hid (((I7.out.below hb8).new (P' := fun x => ((Jo x 0 (.slice x1 s.length k1) (.slice x2 l.length k2) s l ∧ Jo x 0 (.slice y1 sp.length m1) (.slice y2 lp.length m2) sp lp) ∧ Jn.Os x 0 (.slice a7 ls2.length c7) ls2) ∧ Jn.Os x 0 (.slice a8 ls3.length c8) ls3) ⟨(I7.out.below hb8).p, os_mono ho8 (Nat.zero_le _)⟩ (fun x y h hb => ⟨⟨⟨h.1.1.1.below hb (Nat.le_refl _), h.1.1.2.below hb (Nat.le_refl _)⟩, h.1.2.below hb (Nat.le_refl _)⟩, h.2.below hb (Nat.le_refl _)⟩)).add #[.int .i64 d3, .bool e3, .slice a8 ls3.length c8] 32)
      clear I7 ho8 hb8 q2 HR3
      have gn0 := blk_cell (I6.out.b _ (List.mem_cons_self ..)) (o := 0) (v := .int .i64 d3) rfl
      have gn1 := blk_cell (I6.out.b _ (List.mem_cons_self ..)) (o := 1) (v := .bool e3) rfl
      have gn2 := blk_cell (I6.out.b _ (List.mem_cons_self ..)) (o := 2) (v := .slice a8 ls3.length c8) rfl
      have j0 := blk_cell (I6.out.b _ (List.mem_cons_of_mem _ (List.mem_cons_of_mem _ (List.mem_cons_of_mem _ (List.mem_cons_of_mem _ (List.mem_cons_self ..)))))) (o := 0) (v := .slice x1 s.length k1) rfl
      have j1 := blk_cell (I6.out.b _ (List.mem_cons_of_mem _ (List.mem_cons_of_mem _ (List.mem_cons_of_mem _ (List.mem_cons_of_mem _ (List.mem_cons_self ..)))))) (o := 1) (v := .slice x2 l.length k2) rfl
      go_wp2_with fail
      refine (HSP.out _ _ _ I6.out.p.1.1.1.o1.at I6.out.p.1.1.1.o2.at).mono ?_
      rintro e w9 ⟨z1, n1, z2, n2, rfl, hjx, hb9⟩
      have I5 := hid ((I6.out.below hb9).add #[.int .i64 kc, .int .i64 (kn : Int), .slice z1 sp.length n1, .slice z2 lp.length n2] 49)
      clear I6 hjx hb9 gn0 gn1 gn2 j0 j1 HSP HIM
      go_upto_region 12 with fail
      obtain ⟨w5, hw5⟩ : ∃ w5, w5 = w9.alloc (.cells #[.int .i64 kc, .int .i64 (kn : Int), .slice z1 sp.length n1, .slice z2 lp.length n2] 49) := ⟨_, rfl⟩
      obtain ⟨gx, hgx'⟩ : ∃ gx, gx = w9.heap.size := ⟨_, rfl⟩
      obtain ⟨gn, hgn'⟩ : ∃ gn, gn = w8.heap.size := ⟨_, rfl⟩
      rw [← hw5, ← hgx', ← hgn'] at I5
      rw [← hw5, ← hgx', ← hgn']
      clear hw5 hgx' hgn'
      have gx0 := blk_cell (I5.out.b _ (List.mem_cons_self ..)) (o := 0) (v := .int .i64 kc) rfl
      have gx1 := blk_cell (I5.out.b _ (List.mem_cons_self ..)) (o := 1) (v := .int .i64 (kn : Int)) rfl
      have gx2 := blk_cell (I5.out.b _ (List.mem_cons_self ..)) (o := 2) (v := .slice z1 sp.length n1) rfl
      have gx3 := blk_cell (I5.out.b _ (List.mem_cons_self ..)) (o := 3) (v := .slice z2 lp.length n2) rfl
      have hgx := blk_lt (I5.out.b _ (List.mem_cons_self ..))
      have gn0 := blk_cell (I5.out.b _ (List.mem_cons_of_mem _ (List.mem_cons_self ..))) (o := 0) (v := .int .i64 d3) rfl
      have gn1 := blk_cell (I5.out.b _ (List.mem_cons_of_mem _ (List.mem_cons_self ..))) (o := 1) (v := .bool e3) rfl
      have gn2 := blk_cell (I5.out.b _ (List.mem_cons_of_mem _ (List.mem_cons_self ..))) (o := 2) (v := .slice a8 ls3.length c8) rfl
      have hgn := blk_lt (I5.out.b _ (List.mem_cons_of_mem _ (List.mem_cons_self ..)))
      have ga0 := blk_cell (I5.out.b _ (List.mem_cons_of_mem _ (List.mem_cons_of_mem _ (List.mem_cons_self ..)))) (o := 0) (v := .int .i64 d2) rfl
      have ga1 := blk_cell (I5.out.b _ (List.mem_cons_of_mem _ (List.mem_cons_of_mem _ (List.mem_cons_self ..)))) (o := 1) (v := .bool e2) rfl
      have ga2 := blk_cell (I5.out.b _ (List.mem_cons_of_mem _ (List.mem_cons_of_mem _ (List.mem_cons_self ..)))) (o := 2) (v := .slice a7 ls2.length c7) rfl
      have hga := blk_lt (I5.out.b _ (List.mem_cons_of_mem _ (List.mem_cons_of_mem _ (List.mem_cons_self ..))))
      have gs0 := blk_cell (I5.out.b _ (List.mem_cons_of_mem _ (List.mem_cons_of_mem _ (List.mem_cons_of_mem _ (List.mem_cons_self ..))))) (o := 0) (v := .int .i64 d1) rfl
      have gs1 := blk_cell (I5.out.b _ (List.mem_cons_of_mem _ (List.mem_cons_of_mem _ (List.mem_cons_of_mem _ (List.mem_cons_self ..))))) (o := 1) (v := .bool e1) rfl
      have gs2 := blk_cell (I5.out.b _ (List.mem_cons_of_mem _ (List.mem_cons_of_mem _ (List.mem_cons_of_mem _ (List.mem_cons_self ..))))) (o := 2) (v := .slice a6 ls1.length c6) rfl
      have hgs := blk_lt (I5.out.b _ (List.mem_cons_of_mem _ (List.mem_cons_of_mem _ (List.mem_cons_of_mem _ (List.mem_cons_self ..)))))
      have gc0 := blk_cell (I5.out.b _ (List.mem_cons_of_mem _ (List.mem_cons_of_mem _ (List.mem_cons_of_mem _ (List.mem_cons_of_mem _ (List.mem_cons_self ..)))))) (o := 0) (v := .int .i64 kc) rfl
      have gc1 := blk_cell (I5.out.b _ (List.mem_cons_of_mem _ (List.mem_cons_of_mem _ (List.mem_cons_of_mem _ (List.mem_cons_of_mem _ (List.mem_cons_self ..)))))) (o := 1) (v := .int .i64 (kn : Int)) rfl
      have gc2 := blk_cell (I5.out.b _ (List.mem_cons_of_mem _ (List.mem_cons_of_mem _ (List.mem_cons_of_mem _ (List.mem_cons_of_mem _ (List.mem_cons_self ..)))))) (o := 2) (v := .slice y1 sp.length m1) rfl
      have gc3 := blk_cell (I5.out.b _ (List.mem_cons_of_mem _ (List.mem_cons_of_mem _ (List.mem_cons_of_mem _ (List.mem_cons_of_mem _ (List.mem_cons_self ..)))))) (o := 3) (v := .slice y2 lp.length m2) rfl
      have hgc := blk_lt (I5.out.b _ (List.mem_cons_of_mem _ (List.mem_cons_of_mem _ (List.mem_cons_of_mem _ (List.mem_cons_of_mem _ (List.mem_cons_self ..))))))
      have gj0 := blk_cell (I5.out.b _ (List.mem_cons_of_mem _ (List.mem_cons_of_mem _ (List.mem_cons_of_mem _ (List.mem_cons_of_mem _ (List.mem_cons_of_mem _ (List.mem_cons_self ..))))))) (o := 0) (v := .slice x1 s.length k1) rfl
      have gj1 := blk_cell (I5.out.b _ (List.mem_cons_of_mem _ (List.mem_cons_of_mem _ (List.mem_cons_of_mem _ (List.mem_cons_of_mem _ (List.mem_cons_of_mem _ (List.mem_cons_self ..))))))) (o := 1) (v := .slice x2 l.length k2) rfl
      have hgj := blk_lt (I5.out.b _ (List.mem_cons_of_mem _ (List.mem_cons_of_mem _ (List.mem_cons_of_mem _ (List.mem_cons_of_mem _ (List.mem_cons_of_mem _ (List.mem_cons_self ..)))))))
      dsimp only at hgx hgn hga hgs hgc hgj
      have bk : ((kn : Int) == (ls3.length : Int)) = true := by rw [HKN.out]; simp
      have bl0 : ((lp.length : Int) == 0) = true := by rw [HLP.out]; rfl
      have qs : (ls1.length : Int) ≤ (ls3.length : Int) := by have := HSURE.out; omega
      have qa : (ls3.length : Int) ≤ (ls2.length : Int) := by have := HALL.out.length_le; omega
      have HLT := hid (fun w' (h : Inw w w' [(gx, #[.int .i64 kc, .int .i64 (kn : Int), .slice z1 sp.length n1, .slice z2 lp.length n2], 49), (gn, #[.int .i64 d3, .bool e3, .slice a8 ls3.length c8], 32), (ga, #[.int .i64 d2, .bool e2, .slice a7 ls2.length c7], 32), (gs, #[.int .i64 d1, .bool e1, .slice a6 ls1.length c6], 32), (gc, #[.int .i64 kc, .int .i64 (kn : Int), .slice y1 sp.length m1, .slice y2 lp.length m2], 49), (gj, #[.slice x1 s.length k1, .slice x2 l.length k2], 44)] (fun x => ((Jo x 0 (.slice x1 s.length k1) (.slice x2 l.length k2) s l ∧ Jo x 0 (.slice y1 sp.length m1) (.slice y2 lp.length m2) sp lp) ∧ Jn.Os x 0 (.slice a7 ls2.length c7) ls2) ∧ Jn.Os x 0 (.slice a8 ls3.length c8) ls3)) => lwT 0 0 a8 a7 c8 c7 c7 ls2.length ls3 ls2 w' h3l HALL.out h.p.2 h.p.1.2)
      have HSL := hid (Jn.Os.to I5.out.p.1.2 ls3.length HALL.out.length_le)
      have hbd : Below w5.heap.size w5 w5.drew := (Below.refl _ w5).drew
      by_cases hq : q < (l.length : Int)
      · clear HSURE HALL HLAST HKN HLP
        refine wp_region_held_drew (S := fun wx => Below w5.heap.size w5 wx) (by kernel_rfl) hbd (fun hHeld => ?_)
        refine wpAnyH_take (i := 0) (oi := { dst := some 52, op := Go.Op.fieldAddr 49 (Go.Operand.tmp 5) 1, type := 0, pos := "laws.go:602", after := #[], guard := none }) (v := .pointer (some ⟨gc, 1, none⟩)) rfl (by kernel_rfl) (by kernel_rfl) (by kernel_rfl) (fun _ _ _ h => h) (Or.inl ⟨by rfl, by intro w hSw; (try dsimp only at hSw); go_simp⟩) (by assumption) ?_
        simp only [Act.put, List.setIfInBounds_toArray, List.set_cons_zero, List.set_cons_succ]
        refine wpAnyH_take (i := 1) (oi := { dst := some 53, op := Go.Op.load 2 (Go.Operand.tmp 52), type := 2, pos := "laws.go:602", after := #[{ on := 0, ground := Go.Ground.data }], guard := none }) (v := .int .i64 (kn : Int)) rfl (by kernel_rfl) (by kernel_rfl) (by kernel_rfl) (fun _ _ _ h => h) (Or.inl ⟨by rfl, by intro w hSw; (try dsimp only at hSw); have ca := kept_cell hSw hgc gc1; go_simp⟩) (by assumption) ?_
        simp only [Act.put, List.setIfInBounds_toArray, List.set_cons_zero, List.set_cons_succ]
        refine wpAnyH_take (i := 2) (oi := { dst := some 54, op := Go.Op.fieldAddr 49 (Go.Operand.tmp 10) 1, type := 0, pos := "laws.go:602", after := #[], guard := none }) (v := .pointer (some ⟨gx, 1, none⟩)) rfl (by kernel_rfl) (by kernel_rfl) (by kernel_rfl) (fun _ _ _ h => h) (Or.inl ⟨by rfl, by intro w hSw; (try dsimp only at hSw); go_simp⟩) (by assumption) ?_
        simp only [Act.put, List.setIfInBounds_toArray, List.set_cons_zero, List.set_cons_succ]
        refine wpAnyH_take (i := 3) (oi := { dst := some 55, op := Go.Op.load 2 (Go.Operand.tmp 54), type := 2, pos := "laws.go:602", after := #[{ on := 2, ground := Go.Ground.data }], guard := none }) (v := .int .i64 (kn : Int)) rfl (by kernel_rfl) (by kernel_rfl) (by kernel_rfl) (fun _ _ _ h => h) (Or.inl ⟨by rfl, by intro w hSw; (try dsimp only at hSw); have ca := kept_cell hSw hgx gx1; go_simp⟩) (by assumption) ?_
        simp only [Act.put, List.setIfInBounds_toArray, List.set_cons_zero, List.set_cons_succ]
        refine wpAnyH_take (i := 4) (oi := { dst := some 56, op := Go.Op.binOp Go.BinOp.eql 2 (Go.Operand.tmp 53) (Go.Operand.tmp 55) 2, type := 4, pos := "laws.go:602", after := #[{ on := 1, ground := Go.Ground.data }, { on := 3, ground := Go.Ground.data }], guard := none }) (v := .bool true) rfl (by kernel_rfl) (by kernel_rfl) (by kernel_rfl) (fun _ _ _ h => h) (Or.inl ⟨by rfl, by intro w hSw; (try dsimp only at hSw); go_simp⟩) (by assumption) ?_
        simp only [Act.put, List.setIfInBounds_toArray, List.set_cons_zero, List.set_cons_succ]
        refine wpAnyH_take (i := 5) (oi := { dst := some 57, op := Go.Op.move (Go.Operand.tmp 56), type := 4, pos := "laws.go:602", after := #[{ on := 4, ground := Go.Ground.data }], guard := none }) (v := .bool true) rfl (by kernel_rfl) (by kernel_rfl) (by kernel_rfl) (fun _ _ _ h => h) (Or.inl ⟨by rfl, by intro w hSw; (try dsimp only at hSw); go_simp⟩) (by assumption) ?_
        simp only [Act.put, List.setIfInBounds_toArray, List.set_cons_zero, List.set_cons_succ]
        refine wpAnyH_take (i := 6) (oi := { dst := some 58, op := Go.Op.fieldAddr 49 (Go.Operand.tmp 5) 2, type := 0, pos := "laws.go:602", after := #[{ on := 5, ground := Go.Ground.guard }], guard := some (5, true) }) (v := .pointer (some ⟨gc, 2, none⟩)) rfl (by kernel_rfl) (by kernel_rfl) (by kernel_rfl) (fun _ _ _ h => h) (Or.inl ⟨by rfl, by intro w hSw; (try dsimp only at hSw); go_simp⟩) (by assumption) ?_
        simp only [Act.put, List.setIfInBounds_toArray, List.set_cons_zero, List.set_cons_succ]
        refine wpAnyH_take (i := 7) (oi := { dst := some 59, op := Go.Op.fieldAddr 44 (Go.Operand.tmp 58) 0, type := 0, pos := "laws.go:602", after := #[{ on := 6, ground := Go.Ground.data }, { on := 5, ground := Go.Ground.guard }], guard := some (5, true) }) (v := .pointer (some ⟨gc, 2, none⟩)) rfl (by kernel_rfl) (by kernel_rfl) (by kernel_rfl) (fun _ _ _ h => h) (Or.inl ⟨by rfl, by intro w hSw; (try dsimp only at hSw); go_simp⟩) (by assumption) ?_
        simp only [Act.put, List.setIfInBounds_toArray, List.set_cons_zero, List.set_cons_succ]
        refine wpAnyH_take (i := 8) (oi := { dst := some 60, op := Go.Op.load 24 (Go.Operand.tmp 59), type := 24, pos := "laws.go:602", after := #[{ on := 7, ground := Go.Ground.data }, { on := 5, ground := Go.Ground.guard }], guard := some (5, true) }) (v := .slice y1 sp.length m1) rfl (by kernel_rfl) (by kernel_rfl) (by kernel_rfl) (fun _ _ _ h => h) (Or.inl ⟨by rfl, by intro w hSw; (try dsimp only at hSw); have ca := kept_cell hSw hgc gc2; go_simp⟩) (by assumption) ?_
        simp only [Act.put, List.setIfInBounds_toArray, List.set_cons_zero, List.set_cons_succ]
        refine wpAnyH_take (i := 9) (oi := { dst := some 61, op := Go.Op.call { callee := Go.Callee.builtin Go.Builtin.len, args := #[Go.Operand.tmp 60], argTypes := #[24] }, type := 3, pos := "laws.go:602", after := #[{ on := 8, ground := Go.Ground.data }, { on := 5, ground := Go.Ground.guard }], guard := some (5, true) }) (v := .int .i64 (sp.length : Int)) rfl (by kernel_rfl) (by kernel_rfl) (by kernel_rfl) (fun _ _ _ h => h) (Or.inl ⟨by rfl, by intro w hSw; (try dsimp only at hSw); go_simp⟩) (by assumption) ?_
        simp only [Act.put, List.setIfInBounds_toArray, List.set_cons_zero, List.set_cons_succ]
        refine wpAnyH_take (i := 10) (oi := { dst := some 62, op := Go.Op.fieldAddr 49 (Go.Operand.tmp 10) 2, type := 0, pos := "laws.go:602", after := #[{ on := 5, ground := Go.Ground.guard }], guard := some (5, true) }) (v := .pointer (some ⟨gx, 2, none⟩)) rfl (by kernel_rfl) (by kernel_rfl) (by kernel_rfl) (fun _ _ _ h => h) (Or.inl ⟨by rfl, by intro w hSw; (try dsimp only at hSw); go_simp⟩) (by assumption) ?_
        simp only [Act.put, List.setIfInBounds_toArray, List.set_cons_zero, List.set_cons_succ]
        refine wpAnyH_take (i := 11) (oi := { dst := some 63, op := Go.Op.fieldAddr 44 (Go.Operand.tmp 62) 0, type := 0, pos := "laws.go:602", after := #[{ on := 10, ground := Go.Ground.data }, { on := 5, ground := Go.Ground.guard }], guard := some (5, true) }) (v := .pointer (some ⟨gx, 2, none⟩)) rfl (by kernel_rfl) (by kernel_rfl) (by kernel_rfl) (fun _ _ _ h => h) (Or.inl ⟨by rfl, by intro w hSw; (try dsimp only at hSw); go_simp⟩) (by assumption) ?_
        simp only [Act.put, List.setIfInBounds_toArray, List.set_cons_zero, List.set_cons_succ]
        refine wpAnyH_take (i := 12) (oi := { dst := some 64, op := Go.Op.load 24 (Go.Operand.tmp 63), type := 24, pos := "laws.go:602", after := #[{ on := 11, ground := Go.Ground.data }, { on := 5, ground := Go.Ground.guard }], guard := some (5, true) }) (v := .slice z1 sp.length n1) rfl (by kernel_rfl) (by kernel_rfl) (by kernel_rfl) (fun _ _ _ h => h) (Or.inl ⟨by rfl, by intro w hSw; (try dsimp only at hSw); have ca := kept_cell hSw hgx gx2; go_simp⟩) (by assumption) ?_
        simp only [Act.put, List.setIfInBounds_toArray, List.set_cons_zero, List.set_cons_succ]
        refine wpAnyH_take (i := 13) (oi := { dst := some 65, op := Go.Op.call { callee := Go.Callee.builtin Go.Builtin.len, args := #[Go.Operand.tmp 64], argTypes := #[24] }, type := 3, pos := "laws.go:602", after := #[{ on := 12, ground := Go.Ground.data }, { on := 5, ground := Go.Ground.guard }], guard := some (5, true) }) (v := .int .i64 (sp.length : Int)) rfl (by kernel_rfl) (by kernel_rfl) (by kernel_rfl) (fun _ _ _ h => h) (Or.inl ⟨by rfl, by intro w hSw; (try dsimp only at hSw); go_simp⟩) (by assumption) ?_
        simp only [Act.put, List.setIfInBounds_toArray, List.set_cons_zero, List.set_cons_succ]
        refine wpAnyH_take (i := 14) (oi := { dst := some 66, op := Go.Op.binOp Go.BinOp.eql 3 (Go.Operand.tmp 61) (Go.Operand.tmp 65) 3, type := 4, pos := "laws.go:602", after := #[{ on := 9, ground := Go.Ground.data }, { on := 13, ground := Go.Ground.data }, { on := 5, ground := Go.Ground.guard }], guard := some (5, true) }) (v := .bool true) rfl (by kernel_rfl) (by kernel_rfl) (by kernel_rfl) (fun _ _ _ h => h) (Or.inl ⟨by rfl, by intro w hSw; (try dsimp only at hSw); go_simp⟩) (by assumption) ?_
        simp only [Act.put, List.setIfInBounds_toArray, List.set_cons_zero, List.set_cons_succ]
        refine wpAnyH_take (i := 15) (oi := { dst := some 67, op := Go.Op.pick (Go.Operand.tmp 57) (Go.Operand.tmp 66) (Go.Operand.const (Go.Value.bool false)), type := 4, pos := "laws.go:602", after := #[{ on := 5, ground := Go.Ground.data }, { on := 14, ground := Go.Ground.data }], guard := none }) (v := .bool true) rfl (by kernel_rfl) (by kernel_rfl) (by kernel_rfl) (fun _ _ _ h => h) (Or.inl ⟨by rfl, by intro w hSw; (try dsimp only at hSw); go_simp⟩) (by assumption) ?_
        simp only [Act.put, List.setIfInBounds_toArray, List.set_cons_zero, List.set_cons_succ]
        refine wpAnyH_take (i := 16) (oi := { dst := some 68, op := Go.Op.move (Go.Operand.tmp 67), type := 4, pos := "laws.go:602", after := #[{ on := 15, ground := Go.Ground.data }, { on := 5, ground := Go.Ground.chain }], guard := none }) (v := .bool true) rfl (by kernel_rfl) (by kernel_rfl) (by kernel_rfl) (fun _ _ _ h => h) (Or.inl ⟨by rfl, by intro w hSw; (try dsimp only at hSw); go_simp⟩) (by assumption) ?_
        simp only [Act.put, List.setIfInBounds_toArray, List.set_cons_zero, List.set_cons_succ]
        refine wpAnyH_take (i := 17) (oi := { dst := some 69, op := Go.Op.fieldAddr 49 (Go.Operand.tmp 5) 1, type := 0, pos := "laws.go:602", after := #[{ on := 16, ground := Go.Ground.guard }], guard := some (16, true) }) (v := .pointer (some ⟨gc, 1, none⟩)) rfl (by kernel_rfl) (by kernel_rfl) (by kernel_rfl) (fun _ _ _ h => h) (Or.inl ⟨by rfl, by intro w hSw; (try dsimp only at hSw); go_simp⟩) (by assumption) ?_
        simp only [Act.put, List.setIfInBounds_toArray, List.set_cons_zero, List.set_cons_succ]
        refine wpAnyH_take (i := 18) (oi := { dst := some 70, op := Go.Op.load 2 (Go.Operand.tmp 69), type := 2, pos := "laws.go:602", after := #[{ on := 17, ground := Go.Ground.data }, { on := 16, ground := Go.Ground.guard }], guard := some (16, true) }) (v := .int .i64 (kn : Int)) rfl (by kernel_rfl) (by kernel_rfl) (by kernel_rfl) (fun _ _ _ h => h) (Or.inl ⟨by rfl, by intro w hSw; (try dsimp only at hSw); have ca := kept_cell hSw hgc gc1; go_simp⟩) (by assumption) ?_
        simp only [Act.put, List.setIfInBounds_toArray, List.set_cons_zero, List.set_cons_succ]
        refine wpAnyH_take (i := 19) (oi := { dst := some 71, op := Go.Op.move (Go.Operand.tmp 9), type := 3, pos := "laws.go:602", after := #[{ on := 16, ground := Go.Ground.guard }], guard := some (16, true) }) (v := .int .i64 (ls3.length : Int)) rfl (by kernel_rfl) (by kernel_rfl) (by kernel_rfl) (fun _ _ _ h => h) (Or.inl ⟨by rfl, by intro w hSw; (try dsimp only at hSw); go_simp⟩) (by assumption) ?_
        simp only [Act.put, List.setIfInBounds_toArray, List.set_cons_zero, List.set_cons_succ]
        refine wpAnyH_take (i := 20) (oi := { dst := some 72, op := Go.Op.binOp Go.BinOp.eql 2 (Go.Operand.tmp 70) (Go.Operand.tmp 71) 2, type := 4, pos := "laws.go:602", after := #[{ on := 18, ground := Go.Ground.data }, { on := 19, ground := Go.Ground.data }, { on := 16, ground := Go.Ground.guard }], guard := some (16, true) }) (v := .bool true) rfl (by kernel_rfl) (by kernel_rfl) (by kernel_rfl) (fun _ _ _ h => h) (Or.inl ⟨by rfl, by intro w hSw; (try dsimp only at hSw); go_simp⟩) (by assumption) ?_
        simp only [Act.put, List.setIfInBounds_toArray, List.set_cons_zero, List.set_cons_succ]
        refine wpAnyH_take (i := 21) (oi := { dst := some 73, op := Go.Op.pick (Go.Operand.tmp 68) (Go.Operand.tmp 72) (Go.Operand.const (Go.Value.bool false)), type := 4, pos := "laws.go:602", after := #[{ on := 16, ground := Go.Ground.data }, { on := 20, ground := Go.Ground.data }], guard := none }) (v := .bool true) rfl (by kernel_rfl) (by kernel_rfl) (by kernel_rfl) (fun _ _ _ h => h) (Or.inl ⟨by rfl, by intro w hSw; (try dsimp only at hSw); go_simp⟩) (by assumption) ?_
        simp only [Act.put, List.setIfInBounds_toArray, List.set_cons_zero, List.set_cons_succ]
        refine wpAnyH_take (i := 22) (oi := { dst := some 74, op := Go.Op.move (Go.Operand.tmp 73), type := 4, pos := "laws.go:602", after := #[{ on := 21, ground := Go.Ground.data }, { on := 16, ground := Go.Ground.chain }], guard := none }) (v := .bool true) rfl (by kernel_rfl) (by kernel_rfl) (by kernel_rfl) (fun _ _ _ h => h) (Or.inl ⟨by rfl, by intro w hSw; (try dsimp only at hSw); go_simp⟩) (by assumption) ?_
        simp only [Act.put, List.setIfInBounds_toArray, List.set_cons_zero, List.set_cons_succ]
        refine wpAnyH_take (i := 23) (oi := { dst := some 75, op := Go.Op.move (Go.Operand.tmp 9), type := 3, pos := "laws.go:602", after := #[{ on := 22, ground := Go.Ground.guard }], guard := some (22, true) }) (v := .int .i64 (ls3.length : Int)) rfl (by kernel_rfl) (by kernel_rfl) (by kernel_rfl) (fun _ _ _ h => h) (Or.inl ⟨by rfl, by intro w hSw; (try dsimp only at hSw); go_simp⟩) (by assumption) ?_
        simp only [Act.put, List.setIfInBounds_toArray, List.set_cons_zero, List.set_cons_succ]
        refine wpAnyH_take (i := 24) (oi := { dst := some 76, op := Go.Op.fieldAddr 32 (Go.Operand.tmp 6) 2, type := 0, pos := "laws.go:602", after := #[{ on := 22, ground := Go.Ground.guard }], guard := some (22, true) }) (v := .pointer (some ⟨gs, 2, none⟩)) rfl (by kernel_rfl) (by kernel_rfl) (by kernel_rfl) (fun _ _ _ h => h) (Or.inl ⟨by rfl, by intro w hSw; (try dsimp only at hSw); go_simp⟩) (by assumption) ?_
        simp only [Act.put, List.setIfInBounds_toArray, List.set_cons_zero, List.set_cons_succ]
        refine wpAnyH_take (i := 25) (oi := { dst := some 77, op := Go.Op.load 30 (Go.Operand.tmp 76), type := 30, pos := "laws.go:602", after := #[{ on := 24, ground := Go.Ground.data }, { on := 22, ground := Go.Ground.guard }], guard := some (22, true) }) (v := .slice a6 ls1.length c6) rfl (by kernel_rfl) (by kernel_rfl) (by kernel_rfl) (fun _ _ _ h => h) (Or.inl ⟨by rfl, by intro w hSw; (try dsimp only at hSw); have ca := kept_cell hSw hgs gs2; go_simp⟩) (by assumption) ?_
        simp only [Act.put, List.setIfInBounds_toArray, List.set_cons_zero, List.set_cons_succ]
        refine wpAnyH_take (i := 26) (oi := { dst := some 78, op := Go.Op.call { callee := Go.Callee.builtin Go.Builtin.len, args := #[Go.Operand.tmp 77], argTypes := #[30] }, type := 3, pos := "laws.go:602", after := #[{ on := 25, ground := Go.Ground.data }, { on := 22, ground := Go.Ground.guard }], guard := some (22, true) }) (v := .int .i64 (ls1.length : Int)) rfl (by kernel_rfl) (by kernel_rfl) (by kernel_rfl) (fun _ _ _ h => h) (Or.inl ⟨by rfl, by intro w hSw; (try dsimp only at hSw); go_simp⟩) (by assumption) ?_
        simp only [Act.put, List.setIfInBounds_toArray, List.set_cons_zero, List.set_cons_succ]
        refine wpAnyH_take (i := 27) (oi := { dst := some 79, op := Go.Op.binOp Go.BinOp.geq 3 (Go.Operand.tmp 75) (Go.Operand.tmp 78) 3, type := 4, pos := "laws.go:602", after := #[{ on := 23, ground := Go.Ground.data }, { on := 26, ground := Go.Ground.data }, { on := 22, ground := Go.Ground.guard }], guard := some (22, true) }) (v := .bool true) rfl (by kernel_rfl) (by kernel_rfl) (by kernel_rfl) (fun _ _ _ h => h) (Or.inl ⟨by rfl, by intro w hSw; (try dsimp only at hSw); go_simp⟩) (by assumption) ?_
        simp only [Act.put, List.setIfInBounds_toArray, List.set_cons_zero, List.set_cons_succ]
        refine wpAnyH_take (i := 28) (oi := { dst := some 80, op := Go.Op.pick (Go.Operand.tmp 74) (Go.Operand.tmp 79) (Go.Operand.const (Go.Value.bool false)), type := 4, pos := "laws.go:602", after := #[{ on := 22, ground := Go.Ground.data }, { on := 27, ground := Go.Ground.data }], guard := none }) (v := .bool true) rfl (by kernel_rfl) (by kernel_rfl) (by kernel_rfl) (fun _ _ _ h => h) (Or.inl ⟨by rfl, by intro w hSw; (try dsimp only at hSw); go_simp⟩) (by assumption) ?_
        simp only [Act.put, List.setIfInBounds_toArray, List.set_cons_zero, List.set_cons_succ]
        refine wpAnyH_take (i := 29) (oi := { dst := some 81, op := Go.Op.move (Go.Operand.tmp 80), type := 4, pos := "laws.go:602", after := #[{ on := 28, ground := Go.Ground.data }, { on := 22, ground := Go.Ground.chain }], guard := none }) (v := .bool true) rfl (by kernel_rfl) (by kernel_rfl) (by kernel_rfl) (fun _ _ _ h => h) (Or.inl ⟨by rfl, by intro w hSw; (try dsimp only at hSw); go_simp⟩) (by assumption) ?_
        simp only [Act.put, List.setIfInBounds_toArray, List.set_cons_zero, List.set_cons_succ]
        refine wpAnyH_take (i := 30) (oi := { dst := some 82, op := Go.Op.move (Go.Operand.tmp 9), type := 3, pos := "laws.go:602", after := #[{ on := 29, ground := Go.Ground.guard }], guard := some (29, true) }) (v := .int .i64 (ls3.length : Int)) rfl (by kernel_rfl) (by kernel_rfl) (by kernel_rfl) (fun _ _ _ h => h) (Or.inl ⟨by rfl, by intro w hSw; (try dsimp only at hSw); go_simp⟩) (by assumption) ?_
        simp only [Act.put, List.setIfInBounds_toArray, List.set_cons_zero, List.set_cons_succ]
        refine wpAnyH_take (i := 31) (oi := { dst := some 83, op := Go.Op.fieldAddr 32 (Go.Operand.tmp 7) 2, type := 0, pos := "laws.go:602", after := #[{ on := 29, ground := Go.Ground.guard }], guard := some (29, true) }) (v := .pointer (some ⟨ga, 2, none⟩)) rfl (by kernel_rfl) (by kernel_rfl) (by kernel_rfl) (fun _ _ _ h => h) (Or.inl ⟨by rfl, by intro w hSw; (try dsimp only at hSw); go_simp⟩) (by assumption) ?_
        simp only [Act.put, List.setIfInBounds_toArray, List.set_cons_zero, List.set_cons_succ]
        refine wpAnyH_take (i := 32) (oi := { dst := some 84, op := Go.Op.load 30 (Go.Operand.tmp 83), type := 30, pos := "laws.go:602", after := #[{ on := 31, ground := Go.Ground.data }, { on := 29, ground := Go.Ground.guard }], guard := some (29, true) }) (v := .slice a7 ls2.length c7) rfl (by kernel_rfl) (by kernel_rfl) (by kernel_rfl) (fun _ _ _ h => h) (Or.inl ⟨by rfl, by intro w hSw; (try dsimp only at hSw); have ca := kept_cell hSw hga ga2; go_simp⟩) (by assumption) ?_
        simp only [Act.put, List.setIfInBounds_toArray, List.set_cons_zero, List.set_cons_succ]
        refine wpAnyH_take (i := 33) (oi := { dst := some 85, op := Go.Op.call { callee := Go.Callee.builtin Go.Builtin.len, args := #[Go.Operand.tmp 84], argTypes := #[30] }, type := 3, pos := "laws.go:602", after := #[{ on := 32, ground := Go.Ground.data }, { on := 29, ground := Go.Ground.guard }], guard := some (29, true) }) (v := .int .i64 (ls2.length : Int)) rfl (by kernel_rfl) (by kernel_rfl) (by kernel_rfl) (fun _ _ _ h => h) (Or.inl ⟨by rfl, by intro w hSw; (try dsimp only at hSw); go_simp⟩) (by assumption) ?_
        simp only [Act.put, List.setIfInBounds_toArray, List.set_cons_zero, List.set_cons_succ]
        refine wpAnyH_take (i := 34) (oi := { dst := some 86, op := Go.Op.binOp Go.BinOp.leq 3 (Go.Operand.tmp 82) (Go.Operand.tmp 85) 3, type := 4, pos := "laws.go:602", after := #[{ on := 30, ground := Go.Ground.data }, { on := 33, ground := Go.Ground.data }, { on := 29, ground := Go.Ground.guard }], guard := some (29, true) }) (v := .bool true) rfl (by kernel_rfl) (by kernel_rfl) (by kernel_rfl) (fun _ _ _ h => h) (Or.inl ⟨by rfl, by intro w hSw; (try dsimp only at hSw); go_simp⟩) (by assumption) ?_
        simp only [Act.put, List.setIfInBounds_toArray, List.set_cons_zero, List.set_cons_succ]
        refine wpAnyH_take (i := 35) (oi := { dst := some 87, op := Go.Op.pick (Go.Operand.tmp 81) (Go.Operand.tmp 86) (Go.Operand.const (Go.Value.bool false)), type := 4, pos := "laws.go:602", after := #[{ on := 29, ground := Go.Ground.data }, { on := 34, ground := Go.Ground.data }], guard := none }) (v := .bool true) rfl (by kernel_rfl) (by kernel_rfl) (by kernel_rfl) (fun _ _ _ h => h) (Or.inl ⟨by rfl, by intro w hSw; (try dsimp only at hSw); go_simp⟩) (by assumption) ?_
        simp only [Act.put, List.setIfInBounds_toArray, List.set_cons_zero, List.set_cons_succ]
        refine wpAnyH_take (i := 36) (oi := { dst := some 88, op := Go.Op.move (Go.Operand.tmp 87), type := 4, pos := "laws.go:602", after := #[{ on := 35, ground := Go.Ground.data }, { on := 29, ground := Go.Ground.chain }], guard := none }) (v := .bool true) rfl (by kernel_rfl) (by kernel_rfl) (by kernel_rfl) (fun _ _ _ h => h) (Or.inl ⟨by rfl, by intro w hSw; (try dsimp only at hSw); go_simp⟩) (by assumption) ?_
        simp only [Act.put, List.setIfInBounds_toArray, List.set_cons_zero, List.set_cons_succ]
        refine wpAnyH_take (i := 37) (oi := { dst := some 89, op := Go.Op.fieldAddr 32 (Go.Operand.tmp 8) 2, type := 0, pos := "laws.go:602", after := #[{ on := 36, ground := Go.Ground.guard }], guard := some (36, true) }) (v := .pointer (some ⟨gn, 2, none⟩)) rfl (by kernel_rfl) (by kernel_rfl) (by kernel_rfl) (fun _ _ _ h => h) (Or.inl ⟨by rfl, by intro w hSw; (try dsimp only at hSw); go_simp⟩) (by assumption) ?_
        simp only [Act.put, List.setIfInBounds_toArray, List.set_cons_zero, List.set_cons_succ]
        refine wpAnyH_take (i := 38) (oi := { dst := some 90, op := Go.Op.load 30 (Go.Operand.tmp 89), type := 30, pos := "laws.go:602", after := #[{ on := 37, ground := Go.Ground.data }, { on := 36, ground := Go.Ground.guard }], guard := some (36, true) }) (v := .slice a8 ls3.length c8) rfl (by kernel_rfl) (by kernel_rfl) (by kernel_rfl) (fun _ _ _ h => h) (Or.inl ⟨by rfl, by intro w hSw; (try dsimp only at hSw); have ca := kept_cell hSw hgn gn2; go_simp⟩) (by assumption) ?_
        simp only [Act.put, List.setIfInBounds_toArray, List.set_cons_zero, List.set_cons_succ]
        refine wpAnyH_take (i := 39) (oi := { dst := some 91, op := Go.Op.fieldAddr 32 (Go.Operand.tmp 7) 2, type := 0, pos := "laws.go:602", after := #[{ on := 36, ground := Go.Ground.guard }], guard := some (36, true) }) (v := .pointer (some ⟨ga, 2, none⟩)) rfl (by kernel_rfl) (by kernel_rfl) (by kernel_rfl) (fun _ _ _ h => h) (Or.inl ⟨by rfl, by intro w hSw; (try dsimp only at hSw); go_simp⟩) (by assumption) ?_
        simp only [Act.put, List.setIfInBounds_toArray, List.set_cons_zero, List.set_cons_succ]
        refine wpAnyH_take (i := 40) (oi := { dst := some 92, op := Go.Op.load 30 (Go.Operand.tmp 91), type := 30, pos := "laws.go:602", after := #[{ on := 39, ground := Go.Ground.data }, { on := 36, ground := Go.Ground.guard }], guard := some (36, true) }) (v := .slice a7 ls2.length c7) rfl (by kernel_rfl) (by kernel_rfl) (by kernel_rfl) (fun _ _ _ h => h) (Or.inl ⟨by rfl, by intro w hSw; (try dsimp only at hSw); have ca := kept_cell hSw hga ga2; go_simp⟩) (by assumption) ?_
        simp only [Act.put, List.setIfInBounds_toArray, List.set_cons_zero, List.set_cons_succ]
        refine wpAnyH_take (i := 41) (oi := { dst := some 93, op := Go.Op.move (Go.Operand.tmp 9), type := 3, pos := "laws.go:602", after := #[{ on := 36, ground := Go.Ground.guard }], guard := some (36, true) }) (v := .int .i64 (ls3.length : Int)) rfl (by kernel_rfl) (by kernel_rfl) (by kernel_rfl) (fun _ _ _ h => h) (Or.inl ⟨by rfl, by intro w hSw; (try dsimp only at hSw); go_simp⟩) (by assumption) ?_
        simp only [Act.put, List.setIfInBounds_toArray, List.set_cons_zero, List.set_cons_succ]
        refine wpAnyH_take (i := 42) (oi := { dst := some 94, op := Go.Op.slice 30 (Go.Operand.tmp 92) none (some (Go.Operand.tmp 93)) none, type := 30, pos := "laws.go:602", after := #[{ on := 40, ground := Go.Ground.data }, { on := 41, ground := Go.Ground.data }, { on := 36, ground := Go.Ground.guard }], guard := some (36, true) }) (v := .slice a7 ls3.length c7) rfl (by kernel_rfl) (by kernel_rfl) (by kernel_rfl) (fun _ _ _ h => h) (Or.inl ⟨by rfl, by intro w hSw; (try dsimp only at hSw); have hsl := HSL.out; go_simp⟩) (by assumption) ?_
        simp only [Act.put, List.setIfInBounds_toArray, List.set_cons_zero, List.set_cons_succ]
        refine wpAnyH_ready (rs := [43]) (by kernel_rfl) (by simp) ?_
        refine AllReadyH.cons (o := { dst := some 95, op := Go.Op.call { callee := Go.Callee.value (Go.Operand.func 46), args := #[Go.Operand.tmp 90, Go.Operand.tmp 94], argTypes := #[30, 30] }, type := 4, pos := "laws.go:602", after := #[{ on := 38, ground := Go.Ground.data }, { on := 42, ground := Go.Ground.data }, { on := 36, ground := Go.Ground.chain }, { on := 36, ground := Go.Ground.guard }], guard := some (36, true) }) rfl (fun K hK => ?_) AllReadyH.nil
        go_simp
        go_at_call 46
        refine (HLT.out _ (I5.out.below hbd)).mono ?_
        rintro z w6 ⟨rfl, hb6⟩
        have hbb : Below w5.heap.size w5 w6 := hbd.trans (hb6.mono hbd.size)
        clear hb6
        go_wp2_with fail
        refine hK.out _ _ hbb (fun hHeld => ?_)
        clear hK K
        try simp only [Act.put, List.setIfInBounds_toArray, List.set_cons_zero, List.set_cons_succ]
        refine wpAnyH_take (i := 44) (oi := { dst := some 96, op := Go.Op.pick (Go.Operand.tmp 88) (Go.Operand.tmp 95) (Go.Operand.const (Go.Value.bool false)), type := 4, pos := "laws.go:602", after := #[{ on := 36, ground := Go.Ground.data }, { on := 43, ground := Go.Ground.data }], guard := none }) (v := .bool true) rfl (by kernel_rfl) (by kernel_rfl) (by kernel_rfl) (fun _ _ _ h => h) (Or.inl ⟨by rfl, by intro w hSw; (try dsimp only at hSw); go_simp⟩) (by assumption) ?_
        simp only [Act.put, List.setIfInBounds_toArray, List.set_cons_zero, List.set_cons_succ]
        refine wpAnyH_take (i := 45) (oi := { dst := some 97, op := Go.Op.move (Go.Operand.tmp 96), type := 4, pos := "laws.go:602", after := #[{ on := 44, ground := Go.Ground.data }, { on := 43, ground := Go.Ground.chain }], guard := none }) (v := .bool true) rfl (by kernel_rfl) (by kernel_rfl) (by kernel_rfl) (fun _ _ _ h => h) (Or.inl ⟨by rfl, by intro w hSw; (try dsimp only at hSw); go_simp⟩) (by assumption) ?_
        simp only [Act.put, List.setIfInBounds_toArray, List.set_cons_zero, List.set_cons_succ]
        refine wpAnyH_take (i := 46) (oi := { dst := some 98, op := Go.Op.fieldAddr 49 (Go.Operand.tmp 5) 2, type := 0, pos := "laws.go:602", after := #[{ on := 45, ground := Go.Ground.guard }], guard := some (45, true) }) (v := .pointer (some ⟨gc, 2, none⟩)) rfl (by kernel_rfl) (by kernel_rfl) (by kernel_rfl) (fun _ _ _ h => h) (Or.inl ⟨by rfl, by intro w hSw; (try dsimp only at hSw); go_simp⟩) (by assumption) ?_
        simp only [Act.put, List.setIfInBounds_toArray, List.set_cons_zero, List.set_cons_succ]
        refine wpAnyH_take (i := 47) (oi := { dst := some 99, op := Go.Op.fieldAddr 44 (Go.Operand.tmp 98) 1, type := 0, pos := "laws.go:602", after := #[{ on := 46, ground := Go.Ground.data }, { on := 45, ground := Go.Ground.guard }], guard := some (45, true) }) (v := .pointer (some ⟨gc, 3, none⟩)) rfl (by kernel_rfl) (by kernel_rfl) (by kernel_rfl) (fun _ _ _ h => h) (Or.inl ⟨by rfl, by intro w hSw; (try dsimp only at hSw); go_simp⟩) (by assumption) ?_
        simp only [Act.put, List.setIfInBounds_toArray, List.set_cons_zero, List.set_cons_succ]
        refine wpAnyH_take (i := 48) (oi := { dst := some 100, op := Go.Op.load 24 (Go.Operand.tmp 99), type := 24, pos := "laws.go:602", after := #[{ on := 47, ground := Go.Ground.data }, { on := 45, ground := Go.Ground.guard }], guard := some (45, true) }) (v := .slice y2 lp.length m2) rfl (by kernel_rfl) (by kernel_rfl) (by kernel_rfl) (fun _ _ _ h => h) (Or.inl ⟨by rfl, by intro w hSw; (try dsimp only at hSw); have ca := kept_cell hSw hgc gc3; go_simp⟩) (by assumption) ?_
        simp only [Act.put, List.setIfInBounds_toArray, List.set_cons_zero, List.set_cons_succ]
        refine wpAnyH_take (i := 49) (oi := { dst := some 101, op := Go.Op.call { callee := Go.Callee.builtin Go.Builtin.len, args := #[Go.Operand.tmp 100], argTypes := #[24] }, type := 3, pos := "laws.go:602", after := #[{ on := 48, ground := Go.Ground.data }, { on := 45, ground := Go.Ground.guard }], guard := some (45, true) }) (v := .int .i64 (lp.length : Int)) rfl (by kernel_rfl) (by kernel_rfl) (by kernel_rfl) (fun _ _ _ h => h) (Or.inl ⟨by rfl, by intro w hSw; (try dsimp only at hSw); go_simp⟩) (by assumption) ?_
        simp only [Act.put, List.setIfInBounds_toArray, List.set_cons_zero, List.set_cons_succ]
        refine wpAnyH_take (i := 50) (oi := { dst := some 102, op := Go.Op.binOp Go.BinOp.eql 3 (Go.Operand.tmp 101) (Go.Operand.const (Go.Value.int Go.IntKind.i64 0)) 3, type := 4, pos := "laws.go:602", after := #[{ on := 49, ground := Go.Ground.data }, { on := 45, ground := Go.Ground.guard }], guard := some (45, true) }) (v := .bool true) rfl (by kernel_rfl) (by kernel_rfl) (by kernel_rfl) (fun _ _ _ h => h) (Or.inl ⟨by rfl, by intro w hSw; (try dsimp only at hSw); go_simp⟩) (by assumption) ?_
        simp only [Act.put, List.setIfInBounds_toArray, List.set_cons_zero, List.set_cons_succ]
        refine wpAnyH_take (i := 51) (oi := { dst := some 103, op := Go.Op.pick (Go.Operand.tmp 97) (Go.Operand.tmp 102) (Go.Operand.const (Go.Value.bool false)), type := 4, pos := "laws.go:602", after := #[{ on := 45, ground := Go.Ground.data }, { on := 50, ground := Go.Ground.data }], guard := none }) (v := .bool true) rfl (by kernel_rfl) (by kernel_rfl) (by kernel_rfl) (fun _ _ _ h => h) (Or.inl ⟨by rfl, by intro w hSw; (try dsimp only at hSw); go_simp⟩) (by assumption) ?_
        simp only [Act.put, List.setIfInBounds_toArray, List.set_cons_zero, List.set_cons_succ]
        refine wpAnyH_take (i := 52) (oi := { dst := some 104, op := Go.Op.move (Go.Operand.tmp 103), type := 4, pos := "laws.go:602", after := #[{ on := 51, ground := Go.Ground.data }, { on := 45, ground := Go.Ground.chain }], guard := none }) (v := .bool true) rfl (by kernel_rfl) (by kernel_rfl) (by kernel_rfl) (fun _ _ _ h => h) (Or.inl ⟨by rfl, by intro w hSw; (try dsimp only at hSw); go_simp⟩) (by assumption) ?_
        simp only [Act.put, List.setIfInBounds_toArray, List.set_cons_zero, List.set_cons_succ]
        refine wpAnyH_take (i := 53) (oi := { dst := some 105, op := Go.Op.fieldAddr 49 (Go.Operand.tmp 5) 2, type := 0, pos := "laws.go:602", after := #[{ on := 52, ground := Go.Ground.guard }], guard := some (52, true) }) (v := .pointer (some ⟨gc, 2, none⟩)) rfl (by kernel_rfl) (by kernel_rfl) (by kernel_rfl) (fun _ _ _ h => h) (Or.inl ⟨by rfl, by intro w hSw; (try dsimp only at hSw); go_simp⟩) (by assumption) ?_
        simp only [Act.put, List.setIfInBounds_toArray, List.set_cons_zero, List.set_cons_succ]
        refine wpAnyH_take (i := 54) (oi := { dst := some 106, op := Go.Op.load 44 (Go.Operand.tmp 105), type := 44, pos := "laws.go:602", after := #[{ on := 53, ground := Go.Ground.data }, { on := 52, ground := Go.Ground.guard }], guard := some (52, true) }) (v := .agg #[.slice y1 sp.length m1, .slice y2 lp.length m2]) rfl (by kernel_rfl) (by kernel_rfl) (by kernel_rfl) (fun _ _ _ h => h) (Or.inl ⟨by rfl, by intro w hSw; (try dsimp only at hSw); have ca := kept_cell hSw hgc gc2; have cb := kept_cell hSw hgc gc3; go_simp⟩) (by assumption) ?_
        simp only [Act.put, List.setIfInBounds_toArray, List.set_cons_zero, List.set_cons_succ]
        refine wpAnyH_ready (rs := [55]) (by kernel_rfl) (by simp) ?_
        refine AllReadyH.cons (o := { dst := some 107, op := Go.Op.call { callee := Go.Callee.value (Go.Operand.func 31), args := #[Go.Operand.tmp 106], argTypes := #[44] }, type := 2, pos := "laws.go:602", after := #[{ on := 54, ground := Go.Ground.data }, { on := 52, ground := Go.Ground.chain }, { on := 52, ground := Go.Ground.guard }], guard := some (52, true) }) rfl (fun K hK => ?_) AllReadyH.nil
        go_simp
        go_at_call 31
        refine (HJF.out _ _ _ _ (Nat.le_refl _) (I5.out.below hbb).p.1.1.2.o1.at (I5.out.below hbb).p.1.1.2.o2.at).mono ?_
        rintro z w7 ⟨rfl, hb7⟩
        have hbc : Below w5.heap.size w5 w7 := hbb.trans (hb7.mono hbb.size)
        clear hb7
        go_wp2_with fail
        refine hK.out _ _ hbc (fun hHeld => ?_)
        clear hK K
        try simp only [Act.put, List.setIfInBounds_toArray, List.set_cons_zero, List.set_cons_succ]
        refine wpAnyH_take (i := 56) (oi := { dst := some 108, op := Go.Op.binOp Go.BinOp.eql 2 (Go.Operand.tmp 107) (Go.Operand.const (Go.Value.int Go.IntKind.i64 0)) 2, type := 4, pos := "laws.go:602", after := #[{ on := 55, ground := Go.Ground.data }, { on := 52, ground := Go.Ground.guard }], guard := some (52, true) }) (v := .bool true) rfl (by kernel_rfl) (by kernel_rfl) (by kernel_rfl) (fun _ _ _ h => h) (Or.inl ⟨by rfl, by intro w hSw; (try dsimp only at hSw); go_simp⟩) (by assumption) ?_
        simp only [Act.put, List.setIfInBounds_toArray, List.set_cons_zero, List.set_cons_succ]
        refine wpAnyH_take (i := 57) (oi := { dst := some 109, op := Go.Op.pick (Go.Operand.tmp 104) (Go.Operand.tmp 108) (Go.Operand.const (Go.Value.bool false)), type := 4, pos := "laws.go:602", after := #[{ on := 52, ground := Go.Ground.data }, { on := 56, ground := Go.Ground.data }], guard := none }) (v := .bool true) rfl (by kernel_rfl) (by kernel_rfl) (by kernel_rfl) (fun _ _ _ h => h) (Or.inl ⟨by rfl, by intro w hSw; (try dsimp only at hSw); go_simp⟩) (by assumption) ?_
        simp only [Act.put, List.setIfInBounds_toArray, List.set_cons_zero, List.set_cons_succ]
        refine wpAnyH_take (i := 58) (oi := { dst := some 110, op := Go.Op.move (Go.Operand.tmp 109), type := 4, pos := "laws.go:602", after := #[{ on := 57, ground := Go.Ground.data }, { on := 55, ground := Go.Ground.chain }], guard := none }) (v := .bool true) rfl (by kernel_rfl) (by kernel_rfl) (by kernel_rfl) (fun _ _ _ h => h) (Or.inl ⟨by rfl, by intro w hSw; (try dsimp only at hSw); go_simp⟩) (by assumption) ?_
        simp only [Act.put, List.setIfInBounds_toArray, List.set_cons_zero, List.set_cons_succ]
        refine wpAnyH_take (i := 59) (oi := { dst := some 111, op := Go.Op.move (Go.Operand.tmp 4), type := 2, pos := "laws.go:602", after := #[{ on := 58, ground := Go.Ground.guard }], guard := some (58, true) }) (v := .int .i64 q) rfl (by kernel_rfl) (by kernel_rfl) (by kernel_rfl) (fun _ _ _ h => h) (Or.inl ⟨by rfl, by intro w hSw; (try dsimp only at hSw); go_simp⟩) (by assumption) ?_
        simp only [Act.put, List.setIfInBounds_toArray, List.set_cons_zero, List.set_cons_succ]
        refine wpAnyH_take (i := 60) (oi := { dst := some 112, op := Go.Op.fieldAddr 44 (Go.Operand.tmp 3) 1, type := 0, pos := "laws.go:602", after := #[{ on := 58, ground := Go.Ground.guard }], guard := some (58, true) }) (v := .pointer (some ⟨gj, 1, none⟩)) rfl (by kernel_rfl) (by kernel_rfl) (by kernel_rfl) (fun _ _ _ h => h) (Or.inl ⟨by rfl, by intro w hSw; (try dsimp only at hSw); go_simp⟩) (by assumption) ?_
        simp only [Act.put, List.setIfInBounds_toArray, List.set_cons_zero, List.set_cons_succ]
        refine wpAnyH_take (i := 61) (oi := { dst := some 113, op := Go.Op.load 24 (Go.Operand.tmp 112), type := 24, pos := "laws.go:602", after := #[{ on := 60, ground := Go.Ground.data }, { on := 58, ground := Go.Ground.guard }], guard := some (58, true) }) (v := .slice x2 l.length k2) rfl (by kernel_rfl) (by kernel_rfl) (by kernel_rfl) (fun _ _ _ h => h) (Or.inl ⟨by rfl, by intro w hSw; (try dsimp only at hSw); have ca := kept_cell hSw hgj gj1; go_simp⟩) (by assumption) ?_
        simp only [Act.put, List.setIfInBounds_toArray, List.set_cons_zero, List.set_cons_succ]
        refine wpAnyH_take (i := 62) (oi := { dst := some 114, op := Go.Op.call { callee := Go.Callee.builtin Go.Builtin.len, args := #[Go.Operand.tmp 113], argTypes := #[24] }, type := 3, pos := "laws.go:602", after := #[{ on := 61, ground := Go.Ground.data }, { on := 58, ground := Go.Ground.guard }], guard := some (58, true) }) (v := .int .i64 (l.length : Int)) rfl (by kernel_rfl) (by kernel_rfl) (by kernel_rfl) (fun _ _ _ h => h) (Or.inl ⟨by rfl, by intro w hSw; (try dsimp only at hSw); go_simp⟩) (by assumption) ?_
        simp only [Act.put, List.setIfInBounds_toArray, List.set_cons_zero, List.set_cons_succ]
        refine wpAnyH_take (i := 63) (oi := { dst := some 115, op := Go.Op.binOp Go.BinOp.lss 2 (Go.Operand.tmp 111) (Go.Operand.tmp 114) 2, type := 4, pos := "laws.go:602", after := #[{ on := 59, ground := Go.Ground.data }, { on := 62, ground := Go.Ground.data }, { on := 58, ground := Go.Ground.guard }], guard := some (58, true) }) (v := .bool true) rfl (by kernel_rfl) (by kernel_rfl) (by kernel_rfl) (fun _ _ _ h => h) (Or.inl ⟨by rfl, by intro w hSw; (try dsimp only at hSw); go_simp⟩) (by assumption) ?_
        simp only [Act.put, List.setIfInBounds_toArray, List.set_cons_zero, List.set_cons_succ]
        refine wpAnyH_take (i := 64) (oi := { dst := some 116, op := Go.Op.move (Go.Operand.tmp 115), type := 4, pos := "laws.go:602", after := #[{ on := 63, ground := Go.Ground.data }, { on := 58, ground := Go.Ground.chain }, { on := 58, ground := Go.Ground.guard }], guard := some (58, true) }) (v := .bool true) rfl (by kernel_rfl) (by kernel_rfl) (by kernel_rfl) (fun _ _ _ h => h) (Or.inl ⟨by rfl, by intro w hSw; (try dsimp only at hSw); go_simp⟩) (by assumption) ?_
        simp only [Act.put, List.setIfInBounds_toArray, List.set_cons_zero, List.set_cons_succ]
        refine wpAnyH_take (i := 65) (oi := { dst := some 117, op := Go.Op.move (Go.Operand.tmp 9), type := 3, pos := "laws.go:602", after := #[{ on := 64, ground := Go.Ground.guard }], guard := some (64, false) }) (v := undef) rfl (by kernel_rfl) (by kernel_rfl) (by kernel_rfl) (fun _ _ _ h => h) (Or.inr ⟨by rfl, rfl⟩) (by assumption) ?_
        simp only [Act.put, List.setIfInBounds_toArray, List.set_cons_zero, List.set_cons_succ]
        refine wpAnyH_take (i := 66) (oi := { dst := some 118, op := Go.Op.fieldAddr 32 (Go.Operand.tmp 7) 2, type := 0, pos := "laws.go:602", after := #[{ on := 64, ground := Go.Ground.guard }], guard := some (64, false) }) (v := undef) rfl (by kernel_rfl) (by kernel_rfl) (by kernel_rfl) (fun _ _ _ h => h) (Or.inr ⟨by rfl, rfl⟩) (by assumption) ?_
        simp only [Act.put, List.setIfInBounds_toArray, List.set_cons_zero, List.set_cons_succ]
        refine wpAnyH_take (i := 67) (oi := { dst := some 119, op := Go.Op.load 30 (Go.Operand.tmp 118), type := 30, pos := "laws.go:602", after := #[{ on := 66, ground := Go.Ground.data }, { on := 64, ground := Go.Ground.guard }], guard := some (64, false) }) (v := undef) rfl (by kernel_rfl) (by kernel_rfl) (by kernel_rfl) (fun _ _ _ h => h) (Or.inr ⟨by rfl, rfl⟩) (by assumption) ?_
        simp only [Act.put, List.setIfInBounds_toArray, List.set_cons_zero, List.set_cons_succ]
        refine wpAnyH_take (i := 68) (oi := { dst := some 120, op := Go.Op.call { callee := Go.Callee.builtin Go.Builtin.len, args := #[Go.Operand.tmp 119], argTypes := #[30] }, type := 3, pos := "laws.go:602", after := #[{ on := 67, ground := Go.Ground.data }, { on := 64, ground := Go.Ground.guard }], guard := some (64, false) }) (v := undef) rfl (by kernel_rfl) (by kernel_rfl) (by kernel_rfl) (fun _ _ _ h => h) (Or.inr ⟨by rfl, rfl⟩) (by assumption) ?_
        simp only [Act.put, List.setIfInBounds_toArray, List.set_cons_zero, List.set_cons_succ]
        refine wpAnyH_take (i := 69) (oi := { dst := some 121, op := Go.Op.binOp Go.BinOp.eql 3 (Go.Operand.tmp 117) (Go.Operand.tmp 120) 3, type := 4, pos := "laws.go:602", after := #[{ on := 65, ground := Go.Ground.data }, { on := 68, ground := Go.Ground.data }, { on := 64, ground := Go.Ground.guard }], guard := some (64, false) }) (v := undef) rfl (by kernel_rfl) (by kernel_rfl) (by kernel_rfl) (fun _ _ _ h => h) (Or.inr ⟨by rfl, rfl⟩) (by assumption) ?_
        simp only [Act.put, List.setIfInBounds_toArray, List.set_cons_zero, List.set_cons_succ]
        refine wpAnyH_take (i := 70) (oi := { dst := some 122, op := Go.Op.pick (Go.Operand.tmp 116) (Go.Operand.const (Go.Value.bool true)) (Go.Operand.tmp 121), type := 4, pos := "laws.go:602", after := #[{ on := 64, ground := Go.Ground.data }, { on := 69, ground := Go.Ground.data }, { on := 58, ground := Go.Ground.guard }], guard := some (58, true) }) (v := .bool true) rfl (by kernel_rfl) (by kernel_rfl) (by kernel_rfl) (fun _ _ _ h => h) (Or.inl ⟨by rfl, by intro w hSw; (try dsimp only at hSw); go_simp⟩) (by assumption) ?_
        simp only [Act.put, List.setIfInBounds_toArray, List.set_cons_zero, List.set_cons_succ]
        refine wpAnyH_take (i := 71) (oi := { dst := some 123, op := Go.Op.pick (Go.Operand.tmp 110) (Go.Operand.tmp 122) (Go.Operand.const (Go.Value.bool false)), type := 4, pos := "laws.go:602", after := #[{ on := 58, ground := Go.Ground.data }, { on := 70, ground := Go.Ground.data }], guard := none }) (v := .bool true) rfl (by kernel_rfl) (by kernel_rfl) (by kernel_rfl) (fun _ _ _ h => h) (Or.inl ⟨by rfl, by intro w hSw; (try dsimp only at hSw); go_simp⟩) (by assumption) ?_
        simp only [Act.put, List.setIfInBounds_toArray, List.set_cons_zero, List.set_cons_succ]
        refine wpAnyH_take (i := 72) (oi := { dst := some 2, op := Go.Op.assign (Go.Operand.tmp 123), type := 4, pos := "laws.go:602", after := ([{ on := 71, ground := Go.Ground.data }, { on := 64, ground := Go.Ground.chain }, { on := 0, ground := Go.Ground.phase }, { on := 1, ground := Go.Ground.phase }, { on := 2, ground := Go.Ground.phase }, { on := 3, ground := Go.Ground.phase }, { on := 4, ground := Go.Ground.phase }, { on := 5, ground := Go.Ground.phase }, { on := 6, ground := Go.Ground.phase }, { on := 7, ground := Go.Ground.phase }, { on := 8, ground := Go.Ground.phase }, { on := 9, ground := Go.Ground.phase }, { on := 10, ground := Go.Ground.phase }, { on := 11, ground := Go.Ground.phase }, { on := 12, ground := Go.Ground.phase }, { on := 13, ground := Go.Ground.phase }, { on := 14, ground := Go.Ground.phase }, { on := 15, ground := Go.Ground.phase }, { on := 16, ground := Go.Ground.phase }, { on := 17, ground := Go.Ground.phase }, { on := 18, ground := Go.Ground.phase }, { on := 19, ground := Go.Ground.phase }, { on := 20, ground := Go.Ground.phase }, { on := 21, ground := Go.Ground.phase }, { on := 22, ground := Go.Ground.phase }, { on := 23, ground := Go.Ground.phase }, { on := 24, ground := Go.Ground.phase }, { on := 25, ground := Go.Ground.phase }, { on := 26, ground := Go.Ground.phase }, { on := 27, ground := Go.Ground.phase }, { on := 28, ground := Go.Ground.phase }, { on := 29, ground := Go.Ground.phase }, { on := 30, ground := Go.Ground.phase }, { on := 31, ground := Go.Ground.phase }, { on := 32, ground := Go.Ground.phase }, { on := 33, ground := Go.Ground.phase }, { on := 34, ground := Go.Ground.phase }].append [{ on := 35, ground := Go.Ground.phase }, { on := 36, ground := Go.Ground.phase }, { on := 37, ground := Go.Ground.phase }, { on := 38, ground := Go.Ground.phase }, { on := 39, ground := Go.Ground.phase }, { on := 40, ground := Go.Ground.phase }, { on := 41, ground := Go.Ground.phase }, { on := 42, ground := Go.Ground.phase }, { on := 43, ground := Go.Ground.phase }, { on := 44, ground := Go.Ground.phase }, { on := 45, ground := Go.Ground.phase }, { on := 46, ground := Go.Ground.phase }, { on := 47, ground := Go.Ground.phase }, { on := 48, ground := Go.Ground.phase }, { on := 49, ground := Go.Ground.phase }, { on := 50, ground := Go.Ground.phase }, { on := 51, ground := Go.Ground.phase }, { on := 52, ground := Go.Ground.phase }, { on := 53, ground := Go.Ground.phase }, { on := 54, ground := Go.Ground.phase }, { on := 55, ground := Go.Ground.phase }, { on := 56, ground := Go.Ground.phase }, { on := 57, ground := Go.Ground.phase }, { on := 58, ground := Go.Ground.phase }, { on := 59, ground := Go.Ground.phase }, { on := 60, ground := Go.Ground.phase }, { on := 61, ground := Go.Ground.phase }, { on := 62, ground := Go.Ground.phase }, { on := 63, ground := Go.Ground.phase }, { on := 64, ground := Go.Ground.phase }, { on := 65, ground := Go.Ground.phase }, { on := 66, ground := Go.Ground.phase }, { on := 67, ground := Go.Ground.phase }, { on := 68, ground := Go.Ground.phase }, { on := 69, ground := Go.Ground.phase }, { on := 70, ground := Go.Ground.phase }, { on := 71, ground := Go.Ground.phase }]).toArray, guard := none }) (v := .bool true) rfl (by kernel_rfl) (by kernel_rfl) (by kernel_rfl) (fun _ _ _ h => h) (Or.inl ⟨by rfl, by intro w hSw; (try dsimp only at hSw); go_simp⟩) (by assumption) ?_
        simp only [Act.put, List.setIfInBounds_toArray, List.set_cons_zero, List.set_cons_succ]
        refine wpAnyH_done (by kernel_rfl) ?_ _
        go_wp2
        go_ret
        exact ⟨rfl, (I5.out.below hbc).st⟩
      · have bq : ((ls3.length : Int) == (ls2.length : Int)) = true := by
          rcases HLAST.out with h | h
          · exact absurd h hq
          · rw [h]; simp
        clear HSURE HALL HLAST HKN HLP
        refine wp_region_held_drew (S := fun wx => Below w5.heap.size w5 wx) (by kernel_rfl) hbd (fun hHeld => ?_)
        refine wpAnyH_take (i := 0) (oi := { dst := some 52, op := Go.Op.fieldAddr 49 (Go.Operand.tmp 5) 1, type := 0, pos := "laws.go:602", after := #[], guard := none }) (v := .pointer (some ⟨gc, 1, none⟩)) rfl (by kernel_rfl) (by kernel_rfl) (by kernel_rfl) (fun _ _ _ h => h) (Or.inl ⟨by rfl, by intro w hSw; (try dsimp only at hSw); go_simp⟩) (by assumption) ?_
        simp only [Act.put, List.setIfInBounds_toArray, List.set_cons_zero, List.set_cons_succ]
        refine wpAnyH_take (i := 1) (oi := { dst := some 53, op := Go.Op.load 2 (Go.Operand.tmp 52), type := 2, pos := "laws.go:602", after := #[{ on := 0, ground := Go.Ground.data }], guard := none }) (v := .int .i64 (kn : Int)) rfl (by kernel_rfl) (by kernel_rfl) (by kernel_rfl) (fun _ _ _ h => h) (Or.inl ⟨by rfl, by intro w hSw; (try dsimp only at hSw); have ca := kept_cell hSw hgc gc1; go_simp⟩) (by assumption) ?_
        simp only [Act.put, List.setIfInBounds_toArray, List.set_cons_zero, List.set_cons_succ]
        refine wpAnyH_take (i := 2) (oi := { dst := some 54, op := Go.Op.fieldAddr 49 (Go.Operand.tmp 10) 1, type := 0, pos := "laws.go:602", after := #[], guard := none }) (v := .pointer (some ⟨gx, 1, none⟩)) rfl (by kernel_rfl) (by kernel_rfl) (by kernel_rfl) (fun _ _ _ h => h) (Or.inl ⟨by rfl, by intro w hSw; (try dsimp only at hSw); go_simp⟩) (by assumption) ?_
        simp only [Act.put, List.setIfInBounds_toArray, List.set_cons_zero, List.set_cons_succ]
        refine wpAnyH_take (i := 3) (oi := { dst := some 55, op := Go.Op.load 2 (Go.Operand.tmp 54), type := 2, pos := "laws.go:602", after := #[{ on := 2, ground := Go.Ground.data }], guard := none }) (v := .int .i64 (kn : Int)) rfl (by kernel_rfl) (by kernel_rfl) (by kernel_rfl) (fun _ _ _ h => h) (Or.inl ⟨by rfl, by intro w hSw; (try dsimp only at hSw); have ca := kept_cell hSw hgx gx1; go_simp⟩) (by assumption) ?_
        simp only [Act.put, List.setIfInBounds_toArray, List.set_cons_zero, List.set_cons_succ]
        refine wpAnyH_take (i := 4) (oi := { dst := some 56, op := Go.Op.binOp Go.BinOp.eql 2 (Go.Operand.tmp 53) (Go.Operand.tmp 55) 2, type := 4, pos := "laws.go:602", after := #[{ on := 1, ground := Go.Ground.data }, { on := 3, ground := Go.Ground.data }], guard := none }) (v := .bool true) rfl (by kernel_rfl) (by kernel_rfl) (by kernel_rfl) (fun _ _ _ h => h) (Or.inl ⟨by rfl, by intro w hSw; (try dsimp only at hSw); go_simp⟩) (by assumption) ?_
        simp only [Act.put, List.setIfInBounds_toArray, List.set_cons_zero, List.set_cons_succ]
        refine wpAnyH_take (i := 5) (oi := { dst := some 57, op := Go.Op.move (Go.Operand.tmp 56), type := 4, pos := "laws.go:602", after := #[{ on := 4, ground := Go.Ground.data }], guard := none }) (v := .bool true) rfl (by kernel_rfl) (by kernel_rfl) (by kernel_rfl) (fun _ _ _ h => h) (Or.inl ⟨by rfl, by intro w hSw; (try dsimp only at hSw); go_simp⟩) (by assumption) ?_
        simp only [Act.put, List.setIfInBounds_toArray, List.set_cons_zero, List.set_cons_succ]
        refine wpAnyH_take (i := 6) (oi := { dst := some 58, op := Go.Op.fieldAddr 49 (Go.Operand.tmp 5) 2, type := 0, pos := "laws.go:602", after := #[{ on := 5, ground := Go.Ground.guard }], guard := some (5, true) }) (v := .pointer (some ⟨gc, 2, none⟩)) rfl (by kernel_rfl) (by kernel_rfl) (by kernel_rfl) (fun _ _ _ h => h) (Or.inl ⟨by rfl, by intro w hSw; (try dsimp only at hSw); go_simp⟩) (by assumption) ?_
        simp only [Act.put, List.setIfInBounds_toArray, List.set_cons_zero, List.set_cons_succ]
        refine wpAnyH_take (i := 7) (oi := { dst := some 59, op := Go.Op.fieldAddr 44 (Go.Operand.tmp 58) 0, type := 0, pos := "laws.go:602", after := #[{ on := 6, ground := Go.Ground.data }, { on := 5, ground := Go.Ground.guard }], guard := some (5, true) }) (v := .pointer (some ⟨gc, 2, none⟩)) rfl (by kernel_rfl) (by kernel_rfl) (by kernel_rfl) (fun _ _ _ h => h) (Or.inl ⟨by rfl, by intro w hSw; (try dsimp only at hSw); go_simp⟩) (by assumption) ?_
        simp only [Act.put, List.setIfInBounds_toArray, List.set_cons_zero, List.set_cons_succ]
        refine wpAnyH_take (i := 8) (oi := { dst := some 60, op := Go.Op.load 24 (Go.Operand.tmp 59), type := 24, pos := "laws.go:602", after := #[{ on := 7, ground := Go.Ground.data }, { on := 5, ground := Go.Ground.guard }], guard := some (5, true) }) (v := .slice y1 sp.length m1) rfl (by kernel_rfl) (by kernel_rfl) (by kernel_rfl) (fun _ _ _ h => h) (Or.inl ⟨by rfl, by intro w hSw; (try dsimp only at hSw); have ca := kept_cell hSw hgc gc2; go_simp⟩) (by assumption) ?_
        simp only [Act.put, List.setIfInBounds_toArray, List.set_cons_zero, List.set_cons_succ]
        refine wpAnyH_take (i := 9) (oi := { dst := some 61, op := Go.Op.call { callee := Go.Callee.builtin Go.Builtin.len, args := #[Go.Operand.tmp 60], argTypes := #[24] }, type := 3, pos := "laws.go:602", after := #[{ on := 8, ground := Go.Ground.data }, { on := 5, ground := Go.Ground.guard }], guard := some (5, true) }) (v := .int .i64 (sp.length : Int)) rfl (by kernel_rfl) (by kernel_rfl) (by kernel_rfl) (fun _ _ _ h => h) (Or.inl ⟨by rfl, by intro w hSw; (try dsimp only at hSw); go_simp⟩) (by assumption) ?_
        simp only [Act.put, List.setIfInBounds_toArray, List.set_cons_zero, List.set_cons_succ]
        refine wpAnyH_take (i := 10) (oi := { dst := some 62, op := Go.Op.fieldAddr 49 (Go.Operand.tmp 10) 2, type := 0, pos := "laws.go:602", after := #[{ on := 5, ground := Go.Ground.guard }], guard := some (5, true) }) (v := .pointer (some ⟨gx, 2, none⟩)) rfl (by kernel_rfl) (by kernel_rfl) (by kernel_rfl) (fun _ _ _ h => h) (Or.inl ⟨by rfl, by intro w hSw; (try dsimp only at hSw); go_simp⟩) (by assumption) ?_
        simp only [Act.put, List.setIfInBounds_toArray, List.set_cons_zero, List.set_cons_succ]
        refine wpAnyH_take (i := 11) (oi := { dst := some 63, op := Go.Op.fieldAddr 44 (Go.Operand.tmp 62) 0, type := 0, pos := "laws.go:602", after := #[{ on := 10, ground := Go.Ground.data }, { on := 5, ground := Go.Ground.guard }], guard := some (5, true) }) (v := .pointer (some ⟨gx, 2, none⟩)) rfl (by kernel_rfl) (by kernel_rfl) (by kernel_rfl) (fun _ _ _ h => h) (Or.inl ⟨by rfl, by intro w hSw; (try dsimp only at hSw); go_simp⟩) (by assumption) ?_
        simp only [Act.put, List.setIfInBounds_toArray, List.set_cons_zero, List.set_cons_succ]
        refine wpAnyH_take (i := 12) (oi := { dst := some 64, op := Go.Op.load 24 (Go.Operand.tmp 63), type := 24, pos := "laws.go:602", after := #[{ on := 11, ground := Go.Ground.data }, { on := 5, ground := Go.Ground.guard }], guard := some (5, true) }) (v := .slice z1 sp.length n1) rfl (by kernel_rfl) (by kernel_rfl) (by kernel_rfl) (fun _ _ _ h => h) (Or.inl ⟨by rfl, by intro w hSw; (try dsimp only at hSw); have ca := kept_cell hSw hgx gx2; go_simp⟩) (by assumption) ?_
        simp only [Act.put, List.setIfInBounds_toArray, List.set_cons_zero, List.set_cons_succ]
        refine wpAnyH_take (i := 13) (oi := { dst := some 65, op := Go.Op.call { callee := Go.Callee.builtin Go.Builtin.len, args := #[Go.Operand.tmp 64], argTypes := #[24] }, type := 3, pos := "laws.go:602", after := #[{ on := 12, ground := Go.Ground.data }, { on := 5, ground := Go.Ground.guard }], guard := some (5, true) }) (v := .int .i64 (sp.length : Int)) rfl (by kernel_rfl) (by kernel_rfl) (by kernel_rfl) (fun _ _ _ h => h) (Or.inl ⟨by rfl, by intro w hSw; (try dsimp only at hSw); go_simp⟩) (by assumption) ?_
        simp only [Act.put, List.setIfInBounds_toArray, List.set_cons_zero, List.set_cons_succ]
        refine wpAnyH_take (i := 14) (oi := { dst := some 66, op := Go.Op.binOp Go.BinOp.eql 3 (Go.Operand.tmp 61) (Go.Operand.tmp 65) 3, type := 4, pos := "laws.go:602", after := #[{ on := 9, ground := Go.Ground.data }, { on := 13, ground := Go.Ground.data }, { on := 5, ground := Go.Ground.guard }], guard := some (5, true) }) (v := .bool true) rfl (by kernel_rfl) (by kernel_rfl) (by kernel_rfl) (fun _ _ _ h => h) (Or.inl ⟨by rfl, by intro w hSw; (try dsimp only at hSw); go_simp⟩) (by assumption) ?_
        simp only [Act.put, List.setIfInBounds_toArray, List.set_cons_zero, List.set_cons_succ]
        refine wpAnyH_take (i := 15) (oi := { dst := some 67, op := Go.Op.pick (Go.Operand.tmp 57) (Go.Operand.tmp 66) (Go.Operand.const (Go.Value.bool false)), type := 4, pos := "laws.go:602", after := #[{ on := 5, ground := Go.Ground.data }, { on := 14, ground := Go.Ground.data }], guard := none }) (v := .bool true) rfl (by kernel_rfl) (by kernel_rfl) (by kernel_rfl) (fun _ _ _ h => h) (Or.inl ⟨by rfl, by intro w hSw; (try dsimp only at hSw); go_simp⟩) (by assumption) ?_
        simp only [Act.put, List.setIfInBounds_toArray, List.set_cons_zero, List.set_cons_succ]
        refine wpAnyH_take (i := 16) (oi := { dst := some 68, op := Go.Op.move (Go.Operand.tmp 67), type := 4, pos := "laws.go:602", after := #[{ on := 15, ground := Go.Ground.data }, { on := 5, ground := Go.Ground.chain }], guard := none }) (v := .bool true) rfl (by kernel_rfl) (by kernel_rfl) (by kernel_rfl) (fun _ _ _ h => h) (Or.inl ⟨by rfl, by intro w hSw; (try dsimp only at hSw); go_simp⟩) (by assumption) ?_
        simp only [Act.put, List.setIfInBounds_toArray, List.set_cons_zero, List.set_cons_succ]
        refine wpAnyH_take (i := 17) (oi := { dst := some 69, op := Go.Op.fieldAddr 49 (Go.Operand.tmp 5) 1, type := 0, pos := "laws.go:602", after := #[{ on := 16, ground := Go.Ground.guard }], guard := some (16, true) }) (v := .pointer (some ⟨gc, 1, none⟩)) rfl (by kernel_rfl) (by kernel_rfl) (by kernel_rfl) (fun _ _ _ h => h) (Or.inl ⟨by rfl, by intro w hSw; (try dsimp only at hSw); go_simp⟩) (by assumption) ?_
        simp only [Act.put, List.setIfInBounds_toArray, List.set_cons_zero, List.set_cons_succ]
        refine wpAnyH_take (i := 18) (oi := { dst := some 70, op := Go.Op.load 2 (Go.Operand.tmp 69), type := 2, pos := "laws.go:602", after := #[{ on := 17, ground := Go.Ground.data }, { on := 16, ground := Go.Ground.guard }], guard := some (16, true) }) (v := .int .i64 (kn : Int)) rfl (by kernel_rfl) (by kernel_rfl) (by kernel_rfl) (fun _ _ _ h => h) (Or.inl ⟨by rfl, by intro w hSw; (try dsimp only at hSw); have ca := kept_cell hSw hgc gc1; go_simp⟩) (by assumption) ?_
        simp only [Act.put, List.setIfInBounds_toArray, List.set_cons_zero, List.set_cons_succ]
        refine wpAnyH_take (i := 19) (oi := { dst := some 71, op := Go.Op.move (Go.Operand.tmp 9), type := 3, pos := "laws.go:602", after := #[{ on := 16, ground := Go.Ground.guard }], guard := some (16, true) }) (v := .int .i64 (ls3.length : Int)) rfl (by kernel_rfl) (by kernel_rfl) (by kernel_rfl) (fun _ _ _ h => h) (Or.inl ⟨by rfl, by intro w hSw; (try dsimp only at hSw); go_simp⟩) (by assumption) ?_
        simp only [Act.put, List.setIfInBounds_toArray, List.set_cons_zero, List.set_cons_succ]
        refine wpAnyH_take (i := 20) (oi := { dst := some 72, op := Go.Op.binOp Go.BinOp.eql 2 (Go.Operand.tmp 70) (Go.Operand.tmp 71) 2, type := 4, pos := "laws.go:602", after := #[{ on := 18, ground := Go.Ground.data }, { on := 19, ground := Go.Ground.data }, { on := 16, ground := Go.Ground.guard }], guard := some (16, true) }) (v := .bool true) rfl (by kernel_rfl) (by kernel_rfl) (by kernel_rfl) (fun _ _ _ h => h) (Or.inl ⟨by rfl, by intro w hSw; (try dsimp only at hSw); go_simp⟩) (by assumption) ?_
        simp only [Act.put, List.setIfInBounds_toArray, List.set_cons_zero, List.set_cons_succ]
        refine wpAnyH_take (i := 21) (oi := { dst := some 73, op := Go.Op.pick (Go.Operand.tmp 68) (Go.Operand.tmp 72) (Go.Operand.const (Go.Value.bool false)), type := 4, pos := "laws.go:602", after := #[{ on := 16, ground := Go.Ground.data }, { on := 20, ground := Go.Ground.data }], guard := none }) (v := .bool true) rfl (by kernel_rfl) (by kernel_rfl) (by kernel_rfl) (fun _ _ _ h => h) (Or.inl ⟨by rfl, by intro w hSw; (try dsimp only at hSw); go_simp⟩) (by assumption) ?_
        simp only [Act.put, List.setIfInBounds_toArray, List.set_cons_zero, List.set_cons_succ]
        refine wpAnyH_take (i := 22) (oi := { dst := some 74, op := Go.Op.move (Go.Operand.tmp 73), type := 4, pos := "laws.go:602", after := #[{ on := 21, ground := Go.Ground.data }, { on := 16, ground := Go.Ground.chain }], guard := none }) (v := .bool true) rfl (by kernel_rfl) (by kernel_rfl) (by kernel_rfl) (fun _ _ _ h => h) (Or.inl ⟨by rfl, by intro w hSw; (try dsimp only at hSw); go_simp⟩) (by assumption) ?_
        simp only [Act.put, List.setIfInBounds_toArray, List.set_cons_zero, List.set_cons_succ]
        refine wpAnyH_take (i := 23) (oi := { dst := some 75, op := Go.Op.move (Go.Operand.tmp 9), type := 3, pos := "laws.go:602", after := #[{ on := 22, ground := Go.Ground.guard }], guard := some (22, true) }) (v := .int .i64 (ls3.length : Int)) rfl (by kernel_rfl) (by kernel_rfl) (by kernel_rfl) (fun _ _ _ h => h) (Or.inl ⟨by rfl, by intro w hSw; (try dsimp only at hSw); go_simp⟩) (by assumption) ?_
        simp only [Act.put, List.setIfInBounds_toArray, List.set_cons_zero, List.set_cons_succ]
        refine wpAnyH_take (i := 24) (oi := { dst := some 76, op := Go.Op.fieldAddr 32 (Go.Operand.tmp 6) 2, type := 0, pos := "laws.go:602", after := #[{ on := 22, ground := Go.Ground.guard }], guard := some (22, true) }) (v := .pointer (some ⟨gs, 2, none⟩)) rfl (by kernel_rfl) (by kernel_rfl) (by kernel_rfl) (fun _ _ _ h => h) (Or.inl ⟨by rfl, by intro w hSw; (try dsimp only at hSw); go_simp⟩) (by assumption) ?_
        simp only [Act.put, List.setIfInBounds_toArray, List.set_cons_zero, List.set_cons_succ]
        refine wpAnyH_take (i := 25) (oi := { dst := some 77, op := Go.Op.load 30 (Go.Operand.tmp 76), type := 30, pos := "laws.go:602", after := #[{ on := 24, ground := Go.Ground.data }, { on := 22, ground := Go.Ground.guard }], guard := some (22, true) }) (v := .slice a6 ls1.length c6) rfl (by kernel_rfl) (by kernel_rfl) (by kernel_rfl) (fun _ _ _ h => h) (Or.inl ⟨by rfl, by intro w hSw; (try dsimp only at hSw); have ca := kept_cell hSw hgs gs2; go_simp⟩) (by assumption) ?_
        simp only [Act.put, List.setIfInBounds_toArray, List.set_cons_zero, List.set_cons_succ]
        refine wpAnyH_take (i := 26) (oi := { dst := some 78, op := Go.Op.call { callee := Go.Callee.builtin Go.Builtin.len, args := #[Go.Operand.tmp 77], argTypes := #[30] }, type := 3, pos := "laws.go:602", after := #[{ on := 25, ground := Go.Ground.data }, { on := 22, ground := Go.Ground.guard }], guard := some (22, true) }) (v := .int .i64 (ls1.length : Int)) rfl (by kernel_rfl) (by kernel_rfl) (by kernel_rfl) (fun _ _ _ h => h) (Or.inl ⟨by rfl, by intro w hSw; (try dsimp only at hSw); go_simp⟩) (by assumption) ?_
        simp only [Act.put, List.setIfInBounds_toArray, List.set_cons_zero, List.set_cons_succ]
        refine wpAnyH_take (i := 27) (oi := { dst := some 79, op := Go.Op.binOp Go.BinOp.geq 3 (Go.Operand.tmp 75) (Go.Operand.tmp 78) 3, type := 4, pos := "laws.go:602", after := #[{ on := 23, ground := Go.Ground.data }, { on := 26, ground := Go.Ground.data }, { on := 22, ground := Go.Ground.guard }], guard := some (22, true) }) (v := .bool true) rfl (by kernel_rfl) (by kernel_rfl) (by kernel_rfl) (fun _ _ _ h => h) (Or.inl ⟨by rfl, by intro w hSw; (try dsimp only at hSw); go_simp⟩) (by assumption) ?_
        simp only [Act.put, List.setIfInBounds_toArray, List.set_cons_zero, List.set_cons_succ]
        refine wpAnyH_take (i := 28) (oi := { dst := some 80, op := Go.Op.pick (Go.Operand.tmp 74) (Go.Operand.tmp 79) (Go.Operand.const (Go.Value.bool false)), type := 4, pos := "laws.go:602", after := #[{ on := 22, ground := Go.Ground.data }, { on := 27, ground := Go.Ground.data }], guard := none }) (v := .bool true) rfl (by kernel_rfl) (by kernel_rfl) (by kernel_rfl) (fun _ _ _ h => h) (Or.inl ⟨by rfl, by intro w hSw; (try dsimp only at hSw); go_simp⟩) (by assumption) ?_
        simp only [Act.put, List.setIfInBounds_toArray, List.set_cons_zero, List.set_cons_succ]
        refine wpAnyH_take (i := 29) (oi := { dst := some 81, op := Go.Op.move (Go.Operand.tmp 80), type := 4, pos := "laws.go:602", after := #[{ on := 28, ground := Go.Ground.data }, { on := 22, ground := Go.Ground.chain }], guard := none }) (v := .bool true) rfl (by kernel_rfl) (by kernel_rfl) (by kernel_rfl) (fun _ _ _ h => h) (Or.inl ⟨by rfl, by intro w hSw; (try dsimp only at hSw); go_simp⟩) (by assumption) ?_
        simp only [Act.put, List.setIfInBounds_toArray, List.set_cons_zero, List.set_cons_succ]
        refine wpAnyH_take (i := 30) (oi := { dst := some 82, op := Go.Op.move (Go.Operand.tmp 9), type := 3, pos := "laws.go:602", after := #[{ on := 29, ground := Go.Ground.guard }], guard := some (29, true) }) (v := .int .i64 (ls3.length : Int)) rfl (by kernel_rfl) (by kernel_rfl) (by kernel_rfl) (fun _ _ _ h => h) (Or.inl ⟨by rfl, by intro w hSw; (try dsimp only at hSw); go_simp⟩) (by assumption) ?_
        simp only [Act.put, List.setIfInBounds_toArray, List.set_cons_zero, List.set_cons_succ]
        refine wpAnyH_take (i := 31) (oi := { dst := some 83, op := Go.Op.fieldAddr 32 (Go.Operand.tmp 7) 2, type := 0, pos := "laws.go:602", after := #[{ on := 29, ground := Go.Ground.guard }], guard := some (29, true) }) (v := .pointer (some ⟨ga, 2, none⟩)) rfl (by kernel_rfl) (by kernel_rfl) (by kernel_rfl) (fun _ _ _ h => h) (Or.inl ⟨by rfl, by intro w hSw; (try dsimp only at hSw); go_simp⟩) (by assumption) ?_
        simp only [Act.put, List.setIfInBounds_toArray, List.set_cons_zero, List.set_cons_succ]
        refine wpAnyH_take (i := 32) (oi := { dst := some 84, op := Go.Op.load 30 (Go.Operand.tmp 83), type := 30, pos := "laws.go:602", after := #[{ on := 31, ground := Go.Ground.data }, { on := 29, ground := Go.Ground.guard }], guard := some (29, true) }) (v := .slice a7 ls2.length c7) rfl (by kernel_rfl) (by kernel_rfl) (by kernel_rfl) (fun _ _ _ h => h) (Or.inl ⟨by rfl, by intro w hSw; (try dsimp only at hSw); have ca := kept_cell hSw hga ga2; go_simp⟩) (by assumption) ?_
        simp only [Act.put, List.setIfInBounds_toArray, List.set_cons_zero, List.set_cons_succ]
        refine wpAnyH_take (i := 33) (oi := { dst := some 85, op := Go.Op.call { callee := Go.Callee.builtin Go.Builtin.len, args := #[Go.Operand.tmp 84], argTypes := #[30] }, type := 3, pos := "laws.go:602", after := #[{ on := 32, ground := Go.Ground.data }, { on := 29, ground := Go.Ground.guard }], guard := some (29, true) }) (v := .int .i64 (ls2.length : Int)) rfl (by kernel_rfl) (by kernel_rfl) (by kernel_rfl) (fun _ _ _ h => h) (Or.inl ⟨by rfl, by intro w hSw; (try dsimp only at hSw); go_simp⟩) (by assumption) ?_
        simp only [Act.put, List.setIfInBounds_toArray, List.set_cons_zero, List.set_cons_succ]
        refine wpAnyH_take (i := 34) (oi := { dst := some 86, op := Go.Op.binOp Go.BinOp.leq 3 (Go.Operand.tmp 82) (Go.Operand.tmp 85) 3, type := 4, pos := "laws.go:602", after := #[{ on := 30, ground := Go.Ground.data }, { on := 33, ground := Go.Ground.data }, { on := 29, ground := Go.Ground.guard }], guard := some (29, true) }) (v := .bool true) rfl (by kernel_rfl) (by kernel_rfl) (by kernel_rfl) (fun _ _ _ h => h) (Or.inl ⟨by rfl, by intro w hSw; (try dsimp only at hSw); go_simp⟩) (by assumption) ?_
        simp only [Act.put, List.setIfInBounds_toArray, List.set_cons_zero, List.set_cons_succ]
        refine wpAnyH_take (i := 35) (oi := { dst := some 87, op := Go.Op.pick (Go.Operand.tmp 81) (Go.Operand.tmp 86) (Go.Operand.const (Go.Value.bool false)), type := 4, pos := "laws.go:602", after := #[{ on := 29, ground := Go.Ground.data }, { on := 34, ground := Go.Ground.data }], guard := none }) (v := .bool true) rfl (by kernel_rfl) (by kernel_rfl) (by kernel_rfl) (fun _ _ _ h => h) (Or.inl ⟨by rfl, by intro w hSw; (try dsimp only at hSw); go_simp⟩) (by assumption) ?_
        simp only [Act.put, List.setIfInBounds_toArray, List.set_cons_zero, List.set_cons_succ]
        refine wpAnyH_take (i := 36) (oi := { dst := some 88, op := Go.Op.move (Go.Operand.tmp 87), type := 4, pos := "laws.go:602", after := #[{ on := 35, ground := Go.Ground.data }, { on := 29, ground := Go.Ground.chain }], guard := none }) (v := .bool true) rfl (by kernel_rfl) (by kernel_rfl) (by kernel_rfl) (fun _ _ _ h => h) (Or.inl ⟨by rfl, by intro w hSw; (try dsimp only at hSw); go_simp⟩) (by assumption) ?_
        simp only [Act.put, List.setIfInBounds_toArray, List.set_cons_zero, List.set_cons_succ]
        refine wpAnyH_take (i := 37) (oi := { dst := some 89, op := Go.Op.fieldAddr 32 (Go.Operand.tmp 8) 2, type := 0, pos := "laws.go:602", after := #[{ on := 36, ground := Go.Ground.guard }], guard := some (36, true) }) (v := .pointer (some ⟨gn, 2, none⟩)) rfl (by kernel_rfl) (by kernel_rfl) (by kernel_rfl) (fun _ _ _ h => h) (Or.inl ⟨by rfl, by intro w hSw; (try dsimp only at hSw); go_simp⟩) (by assumption) ?_
        simp only [Act.put, List.setIfInBounds_toArray, List.set_cons_zero, List.set_cons_succ]
        refine wpAnyH_take (i := 38) (oi := { dst := some 90, op := Go.Op.load 30 (Go.Operand.tmp 89), type := 30, pos := "laws.go:602", after := #[{ on := 37, ground := Go.Ground.data }, { on := 36, ground := Go.Ground.guard }], guard := some (36, true) }) (v := .slice a8 ls3.length c8) rfl (by kernel_rfl) (by kernel_rfl) (by kernel_rfl) (fun _ _ _ h => h) (Or.inl ⟨by rfl, by intro w hSw; (try dsimp only at hSw); have ca := kept_cell hSw hgn gn2; go_simp⟩) (by assumption) ?_
        simp only [Act.put, List.setIfInBounds_toArray, List.set_cons_zero, List.set_cons_succ]
        refine wpAnyH_take (i := 39) (oi := { dst := some 91, op := Go.Op.fieldAddr 32 (Go.Operand.tmp 7) 2, type := 0, pos := "laws.go:602", after := #[{ on := 36, ground := Go.Ground.guard }], guard := some (36, true) }) (v := .pointer (some ⟨ga, 2, none⟩)) rfl (by kernel_rfl) (by kernel_rfl) (by kernel_rfl) (fun _ _ _ h => h) (Or.inl ⟨by rfl, by intro w hSw; (try dsimp only at hSw); go_simp⟩) (by assumption) ?_
        simp only [Act.put, List.setIfInBounds_toArray, List.set_cons_zero, List.set_cons_succ]
        refine wpAnyH_take (i := 40) (oi := { dst := some 92, op := Go.Op.load 30 (Go.Operand.tmp 91), type := 30, pos := "laws.go:602", after := #[{ on := 39, ground := Go.Ground.data }, { on := 36, ground := Go.Ground.guard }], guard := some (36, true) }) (v := .slice a7 ls2.length c7) rfl (by kernel_rfl) (by kernel_rfl) (by kernel_rfl) (fun _ _ _ h => h) (Or.inl ⟨by rfl, by intro w hSw; (try dsimp only at hSw); have ca := kept_cell hSw hga ga2; go_simp⟩) (by assumption) ?_
        simp only [Act.put, List.setIfInBounds_toArray, List.set_cons_zero, List.set_cons_succ]
        refine wpAnyH_take (i := 41) (oi := { dst := some 93, op := Go.Op.move (Go.Operand.tmp 9), type := 3, pos := "laws.go:602", after := #[{ on := 36, ground := Go.Ground.guard }], guard := some (36, true) }) (v := .int .i64 (ls3.length : Int)) rfl (by kernel_rfl) (by kernel_rfl) (by kernel_rfl) (fun _ _ _ h => h) (Or.inl ⟨by rfl, by intro w hSw; (try dsimp only at hSw); go_simp⟩) (by assumption) ?_
        simp only [Act.put, List.setIfInBounds_toArray, List.set_cons_zero, List.set_cons_succ]
        refine wpAnyH_take (i := 42) (oi := { dst := some 94, op := Go.Op.slice 30 (Go.Operand.tmp 92) none (some (Go.Operand.tmp 93)) none, type := 30, pos := "laws.go:602", after := #[{ on := 40, ground := Go.Ground.data }, { on := 41, ground := Go.Ground.data }, { on := 36, ground := Go.Ground.guard }], guard := some (36, true) }) (v := .slice a7 ls3.length c7) rfl (by kernel_rfl) (by kernel_rfl) (by kernel_rfl) (fun _ _ _ h => h) (Or.inl ⟨by rfl, by intro w hSw; (try dsimp only at hSw); have hsl := HSL.out; go_simp⟩) (by assumption) ?_
        simp only [Act.put, List.setIfInBounds_toArray, List.set_cons_zero, List.set_cons_succ]
        refine wpAnyH_ready (rs := [43]) (by kernel_rfl) (by simp) ?_
        refine AllReadyH.cons (o := { dst := some 95, op := Go.Op.call { callee := Go.Callee.value (Go.Operand.func 46), args := #[Go.Operand.tmp 90, Go.Operand.tmp 94], argTypes := #[30, 30] }, type := 4, pos := "laws.go:602", after := #[{ on := 38, ground := Go.Ground.data }, { on := 42, ground := Go.Ground.data }, { on := 36, ground := Go.Ground.chain }, { on := 36, ground := Go.Ground.guard }], guard := some (36, true) }) rfl (fun K hK => ?_) AllReadyH.nil
        go_simp
        go_at_call 46
        refine (HLT.out _ (I5.out.below hbd)).mono ?_
        rintro z w6 ⟨rfl, hb6⟩
        have hbb : Below w5.heap.size w5 w6 := hbd.trans (hb6.mono hbd.size)
        clear hb6
        go_wp2_with fail
        refine hK.out _ _ hbb (fun hHeld => ?_)
        clear hK K
        try simp only [Act.put, List.setIfInBounds_toArray, List.set_cons_zero, List.set_cons_succ]
        refine wpAnyH_take (i := 44) (oi := { dst := some 96, op := Go.Op.pick (Go.Operand.tmp 88) (Go.Operand.tmp 95) (Go.Operand.const (Go.Value.bool false)), type := 4, pos := "laws.go:602", after := #[{ on := 36, ground := Go.Ground.data }, { on := 43, ground := Go.Ground.data }], guard := none }) (v := .bool true) rfl (by kernel_rfl) (by kernel_rfl) (by kernel_rfl) (fun _ _ _ h => h) (Or.inl ⟨by rfl, by intro w hSw; (try dsimp only at hSw); go_simp⟩) (by assumption) ?_
        simp only [Act.put, List.setIfInBounds_toArray, List.set_cons_zero, List.set_cons_succ]
        refine wpAnyH_take (i := 45) (oi := { dst := some 97, op := Go.Op.move (Go.Operand.tmp 96), type := 4, pos := "laws.go:602", after := #[{ on := 44, ground := Go.Ground.data }, { on := 43, ground := Go.Ground.chain }], guard := none }) (v := .bool true) rfl (by kernel_rfl) (by kernel_rfl) (by kernel_rfl) (fun _ _ _ h => h) (Or.inl ⟨by rfl, by intro w hSw; (try dsimp only at hSw); go_simp⟩) (by assumption) ?_
        simp only [Act.put, List.setIfInBounds_toArray, List.set_cons_zero, List.set_cons_succ]
        refine wpAnyH_take (i := 46) (oi := { dst := some 98, op := Go.Op.fieldAddr 49 (Go.Operand.tmp 5) 2, type := 0, pos := "laws.go:602", after := #[{ on := 45, ground := Go.Ground.guard }], guard := some (45, true) }) (v := .pointer (some ⟨gc, 2, none⟩)) rfl (by kernel_rfl) (by kernel_rfl) (by kernel_rfl) (fun _ _ _ h => h) (Or.inl ⟨by rfl, by intro w hSw; (try dsimp only at hSw); go_simp⟩) (by assumption) ?_
        simp only [Act.put, List.setIfInBounds_toArray, List.set_cons_zero, List.set_cons_succ]
        refine wpAnyH_take (i := 47) (oi := { dst := some 99, op := Go.Op.fieldAddr 44 (Go.Operand.tmp 98) 1, type := 0, pos := "laws.go:602", after := #[{ on := 46, ground := Go.Ground.data }, { on := 45, ground := Go.Ground.guard }], guard := some (45, true) }) (v := .pointer (some ⟨gc, 3, none⟩)) rfl (by kernel_rfl) (by kernel_rfl) (by kernel_rfl) (fun _ _ _ h => h) (Or.inl ⟨by rfl, by intro w hSw; (try dsimp only at hSw); go_simp⟩) (by assumption) ?_
        simp only [Act.put, List.setIfInBounds_toArray, List.set_cons_zero, List.set_cons_succ]
        refine wpAnyH_take (i := 48) (oi := { dst := some 100, op := Go.Op.load 24 (Go.Operand.tmp 99), type := 24, pos := "laws.go:602", after := #[{ on := 47, ground := Go.Ground.data }, { on := 45, ground := Go.Ground.guard }], guard := some (45, true) }) (v := .slice y2 lp.length m2) rfl (by kernel_rfl) (by kernel_rfl) (by kernel_rfl) (fun _ _ _ h => h) (Or.inl ⟨by rfl, by intro w hSw; (try dsimp only at hSw); have ca := kept_cell hSw hgc gc3; go_simp⟩) (by assumption) ?_
        simp only [Act.put, List.setIfInBounds_toArray, List.set_cons_zero, List.set_cons_succ]
        refine wpAnyH_take (i := 49) (oi := { dst := some 101, op := Go.Op.call { callee := Go.Callee.builtin Go.Builtin.len, args := #[Go.Operand.tmp 100], argTypes := #[24] }, type := 3, pos := "laws.go:602", after := #[{ on := 48, ground := Go.Ground.data }, { on := 45, ground := Go.Ground.guard }], guard := some (45, true) }) (v := .int .i64 (lp.length : Int)) rfl (by kernel_rfl) (by kernel_rfl) (by kernel_rfl) (fun _ _ _ h => h) (Or.inl ⟨by rfl, by intro w hSw; (try dsimp only at hSw); go_simp⟩) (by assumption) ?_
        simp only [Act.put, List.setIfInBounds_toArray, List.set_cons_zero, List.set_cons_succ]
        refine wpAnyH_take (i := 50) (oi := { dst := some 102, op := Go.Op.binOp Go.BinOp.eql 3 (Go.Operand.tmp 101) (Go.Operand.const (Go.Value.int Go.IntKind.i64 0)) 3, type := 4, pos := "laws.go:602", after := #[{ on := 49, ground := Go.Ground.data }, { on := 45, ground := Go.Ground.guard }], guard := some (45, true) }) (v := .bool true) rfl (by kernel_rfl) (by kernel_rfl) (by kernel_rfl) (fun _ _ _ h => h) (Or.inl ⟨by rfl, by intro w hSw; (try dsimp only at hSw); go_simp⟩) (by assumption) ?_
        simp only [Act.put, List.setIfInBounds_toArray, List.set_cons_zero, List.set_cons_succ]
        refine wpAnyH_take (i := 51) (oi := { dst := some 103, op := Go.Op.pick (Go.Operand.tmp 97) (Go.Operand.tmp 102) (Go.Operand.const (Go.Value.bool false)), type := 4, pos := "laws.go:602", after := #[{ on := 45, ground := Go.Ground.data }, { on := 50, ground := Go.Ground.data }], guard := none }) (v := .bool true) rfl (by kernel_rfl) (by kernel_rfl) (by kernel_rfl) (fun _ _ _ h => h) (Or.inl ⟨by rfl, by intro w hSw; (try dsimp only at hSw); go_simp⟩) (by assumption) ?_
        simp only [Act.put, List.setIfInBounds_toArray, List.set_cons_zero, List.set_cons_succ]
        refine wpAnyH_take (i := 52) (oi := { dst := some 104, op := Go.Op.move (Go.Operand.tmp 103), type := 4, pos := "laws.go:602", after := #[{ on := 51, ground := Go.Ground.data }, { on := 45, ground := Go.Ground.chain }], guard := none }) (v := .bool true) rfl (by kernel_rfl) (by kernel_rfl) (by kernel_rfl) (fun _ _ _ h => h) (Or.inl ⟨by rfl, by intro w hSw; (try dsimp only at hSw); go_simp⟩) (by assumption) ?_
        simp only [Act.put, List.setIfInBounds_toArray, List.set_cons_zero, List.set_cons_succ]
        refine wpAnyH_take (i := 53) (oi := { dst := some 105, op := Go.Op.fieldAddr 49 (Go.Operand.tmp 5) 2, type := 0, pos := "laws.go:602", after := #[{ on := 52, ground := Go.Ground.guard }], guard := some (52, true) }) (v := .pointer (some ⟨gc, 2, none⟩)) rfl (by kernel_rfl) (by kernel_rfl) (by kernel_rfl) (fun _ _ _ h => h) (Or.inl ⟨by rfl, by intro w hSw; (try dsimp only at hSw); go_simp⟩) (by assumption) ?_
        simp only [Act.put, List.setIfInBounds_toArray, List.set_cons_zero, List.set_cons_succ]
        refine wpAnyH_take (i := 54) (oi := { dst := some 106, op := Go.Op.load 44 (Go.Operand.tmp 105), type := 44, pos := "laws.go:602", after := #[{ on := 53, ground := Go.Ground.data }, { on := 52, ground := Go.Ground.guard }], guard := some (52, true) }) (v := .agg #[.slice y1 sp.length m1, .slice y2 lp.length m2]) rfl (by kernel_rfl) (by kernel_rfl) (by kernel_rfl) (fun _ _ _ h => h) (Or.inl ⟨by rfl, by intro w hSw; (try dsimp only at hSw); have ca := kept_cell hSw hgc gc2; have cb := kept_cell hSw hgc gc3; go_simp⟩) (by assumption) ?_
        simp only [Act.put, List.setIfInBounds_toArray, List.set_cons_zero, List.set_cons_succ]
        refine wpAnyH_ready (rs := [55]) (by kernel_rfl) (by simp) ?_
        refine AllReadyH.cons (o := { dst := some 107, op := Go.Op.call { callee := Go.Callee.value (Go.Operand.func 31), args := #[Go.Operand.tmp 106], argTypes := #[44] }, type := 2, pos := "laws.go:602", after := #[{ on := 54, ground := Go.Ground.data }, { on := 52, ground := Go.Ground.chain }, { on := 52, ground := Go.Ground.guard }], guard := some (52, true) }) rfl (fun K hK => ?_) AllReadyH.nil
        go_simp
        go_at_call 31
        refine (HJF.out _ _ _ _ (Nat.le_refl _) (I5.out.below hbb).p.1.1.2.o1.at (I5.out.below hbb).p.1.1.2.o2.at).mono ?_
        rintro z w7 ⟨rfl, hb7⟩
        have hbc : Below w5.heap.size w5 w7 := hbb.trans (hb7.mono hbb.size)
        clear hb7
        go_wp2_with fail
        refine hK.out _ _ hbc (fun hHeld => ?_)
        clear hK K
        try simp only [Act.put, List.setIfInBounds_toArray, List.set_cons_zero, List.set_cons_succ]
        refine wpAnyH_take (i := 56) (oi := { dst := some 108, op := Go.Op.binOp Go.BinOp.eql 2 (Go.Operand.tmp 107) (Go.Operand.const (Go.Value.int Go.IntKind.i64 0)) 2, type := 4, pos := "laws.go:602", after := #[{ on := 55, ground := Go.Ground.data }, { on := 52, ground := Go.Ground.guard }], guard := some (52, true) }) (v := .bool true) rfl (by kernel_rfl) (by kernel_rfl) (by kernel_rfl) (fun _ _ _ h => h) (Or.inl ⟨by rfl, by intro w hSw; (try dsimp only at hSw); go_simp⟩) (by assumption) ?_
        simp only [Act.put, List.setIfInBounds_toArray, List.set_cons_zero, List.set_cons_succ]
        refine wpAnyH_take (i := 57) (oi := { dst := some 109, op := Go.Op.pick (Go.Operand.tmp 104) (Go.Operand.tmp 108) (Go.Operand.const (Go.Value.bool false)), type := 4, pos := "laws.go:602", after := #[{ on := 52, ground := Go.Ground.data }, { on := 56, ground := Go.Ground.data }], guard := none }) (v := .bool true) rfl (by kernel_rfl) (by kernel_rfl) (by kernel_rfl) (fun _ _ _ h => h) (Or.inl ⟨by rfl, by intro w hSw; (try dsimp only at hSw); go_simp⟩) (by assumption) ?_
        simp only [Act.put, List.setIfInBounds_toArray, List.set_cons_zero, List.set_cons_succ]
        refine wpAnyH_take (i := 58) (oi := { dst := some 110, op := Go.Op.move (Go.Operand.tmp 109), type := 4, pos := "laws.go:602", after := #[{ on := 57, ground := Go.Ground.data }, { on := 55, ground := Go.Ground.chain }], guard := none }) (v := .bool true) rfl (by kernel_rfl) (by kernel_rfl) (by kernel_rfl) (fun _ _ _ h => h) (Or.inl ⟨by rfl, by intro w hSw; (try dsimp only at hSw); go_simp⟩) (by assumption) ?_
        simp only [Act.put, List.setIfInBounds_toArray, List.set_cons_zero, List.set_cons_succ]
        refine wpAnyH_take (i := 59) (oi := { dst := some 111, op := Go.Op.move (Go.Operand.tmp 4), type := 2, pos := "laws.go:602", after := #[{ on := 58, ground := Go.Ground.guard }], guard := some (58, true) }) (v := .int .i64 q) rfl (by kernel_rfl) (by kernel_rfl) (by kernel_rfl) (fun _ _ _ h => h) (Or.inl ⟨by rfl, by intro w hSw; (try dsimp only at hSw); go_simp⟩) (by assumption) ?_
        simp only [Act.put, List.setIfInBounds_toArray, List.set_cons_zero, List.set_cons_succ]
        refine wpAnyH_take (i := 60) (oi := { dst := some 112, op := Go.Op.fieldAddr 44 (Go.Operand.tmp 3) 1, type := 0, pos := "laws.go:602", after := #[{ on := 58, ground := Go.Ground.guard }], guard := some (58, true) }) (v := .pointer (some ⟨gj, 1, none⟩)) rfl (by kernel_rfl) (by kernel_rfl) (by kernel_rfl) (fun _ _ _ h => h) (Or.inl ⟨by rfl, by intro w hSw; (try dsimp only at hSw); go_simp⟩) (by assumption) ?_
        simp only [Act.put, List.setIfInBounds_toArray, List.set_cons_zero, List.set_cons_succ]
        refine wpAnyH_take (i := 61) (oi := { dst := some 113, op := Go.Op.load 24 (Go.Operand.tmp 112), type := 24, pos := "laws.go:602", after := #[{ on := 60, ground := Go.Ground.data }, { on := 58, ground := Go.Ground.guard }], guard := some (58, true) }) (v := .slice x2 l.length k2) rfl (by kernel_rfl) (by kernel_rfl) (by kernel_rfl) (fun _ _ _ h => h) (Or.inl ⟨by rfl, by intro w hSw; (try dsimp only at hSw); have ca := kept_cell hSw hgj gj1; go_simp⟩) (by assumption) ?_
        simp only [Act.put, List.setIfInBounds_toArray, List.set_cons_zero, List.set_cons_succ]
        refine wpAnyH_take (i := 62) (oi := { dst := some 114, op := Go.Op.call { callee := Go.Callee.builtin Go.Builtin.len, args := #[Go.Operand.tmp 113], argTypes := #[24] }, type := 3, pos := "laws.go:602", after := #[{ on := 61, ground := Go.Ground.data }, { on := 58, ground := Go.Ground.guard }], guard := some (58, true) }) (v := .int .i64 (l.length : Int)) rfl (by kernel_rfl) (by kernel_rfl) (by kernel_rfl) (fun _ _ _ h => h) (Or.inl ⟨by rfl, by intro w hSw; (try dsimp only at hSw); go_simp⟩) (by assumption) ?_
        simp only [Act.put, List.setIfInBounds_toArray, List.set_cons_zero, List.set_cons_succ]
        refine wpAnyH_take (i := 63) (oi := { dst := some 115, op := Go.Op.binOp Go.BinOp.lss 2 (Go.Operand.tmp 111) (Go.Operand.tmp 114) 2, type := 4, pos := "laws.go:602", after := #[{ on := 59, ground := Go.Ground.data }, { on := 62, ground := Go.Ground.data }, { on := 58, ground := Go.Ground.guard }], guard := some (58, true) }) (v := .bool false) rfl (by kernel_rfl) (by kernel_rfl) (by kernel_rfl) (fun _ _ _ h => h) (Or.inl ⟨by rfl, by intro w hSw; (try dsimp only at hSw); go_simp⟩) (by assumption) ?_
        simp only [Act.put, List.setIfInBounds_toArray, List.set_cons_zero, List.set_cons_succ]
        refine wpAnyH_take (i := 64) (oi := { dst := some 116, op := Go.Op.move (Go.Operand.tmp 115), type := 4, pos := "laws.go:602", after := #[{ on := 63, ground := Go.Ground.data }, { on := 58, ground := Go.Ground.chain }, { on := 58, ground := Go.Ground.guard }], guard := some (58, true) }) (v := .bool false) rfl (by kernel_rfl) (by kernel_rfl) (by kernel_rfl) (fun _ _ _ h => h) (Or.inl ⟨by rfl, by intro w hSw; (try dsimp only at hSw); go_simp⟩) (by assumption) ?_
        simp only [Act.put, List.setIfInBounds_toArray, List.set_cons_zero, List.set_cons_succ]
        refine wpAnyH_take (i := 65) (oi := { dst := some 117, op := Go.Op.move (Go.Operand.tmp 9), type := 3, pos := "laws.go:602", after := #[{ on := 64, ground := Go.Ground.guard }], guard := some (64, false) }) (v := .int .i64 (ls3.length : Int)) rfl (by kernel_rfl) (by kernel_rfl) (by kernel_rfl) (fun _ _ _ h => h) (Or.inl ⟨by rfl, by intro w hSw; (try dsimp only at hSw); go_simp⟩) (by assumption) ?_
        simp only [Act.put, List.setIfInBounds_toArray, List.set_cons_zero, List.set_cons_succ]
        refine wpAnyH_take (i := 66) (oi := { dst := some 118, op := Go.Op.fieldAddr 32 (Go.Operand.tmp 7) 2, type := 0, pos := "laws.go:602", after := #[{ on := 64, ground := Go.Ground.guard }], guard := some (64, false) }) (v := .pointer (some ⟨ga, 2, none⟩)) rfl (by kernel_rfl) (by kernel_rfl) (by kernel_rfl) (fun _ _ _ h => h) (Or.inl ⟨by rfl, by intro w hSw; (try dsimp only at hSw); go_simp⟩) (by assumption) ?_
        simp only [Act.put, List.setIfInBounds_toArray, List.set_cons_zero, List.set_cons_succ]
        refine wpAnyH_take (i := 67) (oi := { dst := some 119, op := Go.Op.load 30 (Go.Operand.tmp 118), type := 30, pos := "laws.go:602", after := #[{ on := 66, ground := Go.Ground.data }, { on := 64, ground := Go.Ground.guard }], guard := some (64, false) }) (v := .slice a7 ls2.length c7) rfl (by kernel_rfl) (by kernel_rfl) (by kernel_rfl) (fun _ _ _ h => h) (Or.inl ⟨by rfl, by intro w hSw; (try dsimp only at hSw); have ca := kept_cell hSw hga ga2; go_simp⟩) (by assumption) ?_
        simp only [Act.put, List.setIfInBounds_toArray, List.set_cons_zero, List.set_cons_succ]
        refine wpAnyH_take (i := 68) (oi := { dst := some 120, op := Go.Op.call { callee := Go.Callee.builtin Go.Builtin.len, args := #[Go.Operand.tmp 119], argTypes := #[30] }, type := 3, pos := "laws.go:602", after := #[{ on := 67, ground := Go.Ground.data }, { on := 64, ground := Go.Ground.guard }], guard := some (64, false) }) (v := .int .i64 (ls2.length : Int)) rfl (by kernel_rfl) (by kernel_rfl) (by kernel_rfl) (fun _ _ _ h => h) (Or.inl ⟨by rfl, by intro w hSw; (try dsimp only at hSw); go_simp⟩) (by assumption) ?_
        simp only [Act.put, List.setIfInBounds_toArray, List.set_cons_zero, List.set_cons_succ]
        refine wpAnyH_take (i := 69) (oi := { dst := some 121, op := Go.Op.binOp Go.BinOp.eql 3 (Go.Operand.tmp 117) (Go.Operand.tmp 120) 3, type := 4, pos := "laws.go:602", after := #[{ on := 65, ground := Go.Ground.data }, { on := 68, ground := Go.Ground.data }, { on := 64, ground := Go.Ground.guard }], guard := some (64, false) }) (v := .bool true) rfl (by kernel_rfl) (by kernel_rfl) (by kernel_rfl) (fun _ _ _ h => h) (Or.inl ⟨by rfl, by intro w hSw; (try dsimp only at hSw); go_simp⟩) (by assumption) ?_
        simp only [Act.put, List.setIfInBounds_toArray, List.set_cons_zero, List.set_cons_succ]
        refine wpAnyH_take (i := 70) (oi := { dst := some 122, op := Go.Op.pick (Go.Operand.tmp 116) (Go.Operand.const (Go.Value.bool true)) (Go.Operand.tmp 121), type := 4, pos := "laws.go:602", after := #[{ on := 64, ground := Go.Ground.data }, { on := 69, ground := Go.Ground.data }, { on := 58, ground := Go.Ground.guard }], guard := some (58, true) }) (v := .bool true) rfl (by kernel_rfl) (by kernel_rfl) (by kernel_rfl) (fun _ _ _ h => h) (Or.inl ⟨by rfl, by intro w hSw; (try dsimp only at hSw); go_simp⟩) (by assumption) ?_
        simp only [Act.put, List.setIfInBounds_toArray, List.set_cons_zero, List.set_cons_succ]
        refine wpAnyH_take (i := 71) (oi := { dst := some 123, op := Go.Op.pick (Go.Operand.tmp 110) (Go.Operand.tmp 122) (Go.Operand.const (Go.Value.bool false)), type := 4, pos := "laws.go:602", after := #[{ on := 58, ground := Go.Ground.data }, { on := 70, ground := Go.Ground.data }], guard := none }) (v := .bool true) rfl (by kernel_rfl) (by kernel_rfl) (by kernel_rfl) (fun _ _ _ h => h) (Or.inl ⟨by rfl, by intro w hSw; (try dsimp only at hSw); go_simp⟩) (by assumption) ?_
        simp only [Act.put, List.setIfInBounds_toArray, List.set_cons_zero, List.set_cons_succ]
        refine wpAnyH_take (i := 72) (oi := { dst := some 2, op := Go.Op.assign (Go.Operand.tmp 123), type := 4, pos := "laws.go:602", after := ([{ on := 71, ground := Go.Ground.data }, { on := 64, ground := Go.Ground.chain }, { on := 0, ground := Go.Ground.phase }, { on := 1, ground := Go.Ground.phase }, { on := 2, ground := Go.Ground.phase }, { on := 3, ground := Go.Ground.phase }, { on := 4, ground := Go.Ground.phase }, { on := 5, ground := Go.Ground.phase }, { on := 6, ground := Go.Ground.phase }, { on := 7, ground := Go.Ground.phase }, { on := 8, ground := Go.Ground.phase }, { on := 9, ground := Go.Ground.phase }, { on := 10, ground := Go.Ground.phase }, { on := 11, ground := Go.Ground.phase }, { on := 12, ground := Go.Ground.phase }, { on := 13, ground := Go.Ground.phase }, { on := 14, ground := Go.Ground.phase }, { on := 15, ground := Go.Ground.phase }, { on := 16, ground := Go.Ground.phase }, { on := 17, ground := Go.Ground.phase }, { on := 18, ground := Go.Ground.phase }, { on := 19, ground := Go.Ground.phase }, { on := 20, ground := Go.Ground.phase }, { on := 21, ground := Go.Ground.phase }, { on := 22, ground := Go.Ground.phase }, { on := 23, ground := Go.Ground.phase }, { on := 24, ground := Go.Ground.phase }, { on := 25, ground := Go.Ground.phase }, { on := 26, ground := Go.Ground.phase }, { on := 27, ground := Go.Ground.phase }, { on := 28, ground := Go.Ground.phase }, { on := 29, ground := Go.Ground.phase }, { on := 30, ground := Go.Ground.phase }, { on := 31, ground := Go.Ground.phase }, { on := 32, ground := Go.Ground.phase }, { on := 33, ground := Go.Ground.phase }, { on := 34, ground := Go.Ground.phase }].append [{ on := 35, ground := Go.Ground.phase }, { on := 36, ground := Go.Ground.phase }, { on := 37, ground := Go.Ground.phase }, { on := 38, ground := Go.Ground.phase }, { on := 39, ground := Go.Ground.phase }, { on := 40, ground := Go.Ground.phase }, { on := 41, ground := Go.Ground.phase }, { on := 42, ground := Go.Ground.phase }, { on := 43, ground := Go.Ground.phase }, { on := 44, ground := Go.Ground.phase }, { on := 45, ground := Go.Ground.phase }, { on := 46, ground := Go.Ground.phase }, { on := 47, ground := Go.Ground.phase }, { on := 48, ground := Go.Ground.phase }, { on := 49, ground := Go.Ground.phase }, { on := 50, ground := Go.Ground.phase }, { on := 51, ground := Go.Ground.phase }, { on := 52, ground := Go.Ground.phase }, { on := 53, ground := Go.Ground.phase }, { on := 54, ground := Go.Ground.phase }, { on := 55, ground := Go.Ground.phase }, { on := 56, ground := Go.Ground.phase }, { on := 57, ground := Go.Ground.phase }, { on := 58, ground := Go.Ground.phase }, { on := 59, ground := Go.Ground.phase }, { on := 60, ground := Go.Ground.phase }, { on := 61, ground := Go.Ground.phase }, { on := 62, ground := Go.Ground.phase }, { on := 63, ground := Go.Ground.phase }, { on := 64, ground := Go.Ground.phase }, { on := 65, ground := Go.Ground.phase }, { on := 66, ground := Go.Ground.phase }, { on := 67, ground := Go.Ground.phase }, { on := 68, ground := Go.Ground.phase }, { on := 69, ground := Go.Ground.phase }, { on := 70, ground := Go.Ground.phase }, { on := 71, ground := Go.Ground.phase }]).toArray, guard := none }) (v := .bool true) rfl (by kernel_rfl) (by kernel_rfl) (by kernel_rfl) (fun _ _ _ h => h) (Or.inl ⟨by rfl, by intro w hSw; (try dsimp only at hSw); go_simp⟩) (by assumption) ?_
        simp only [Act.put, List.setIfInBounds_toArray, List.set_cons_zero, List.set_cons_succ]
        refine wpAnyH_done (by kernel_rfl) ?_ _
        go_wp2
        go_ret
        exact ⟨rfl, (I5.out.below hbc).st⟩
  · have b0 : (kc != 0) = true := by simpa using hz
    have b1 : (kc == kc) = true := by simp
    clear HT hz
    go_upto_region 6 with fail
    have hgc := blk_lt (I2.out.b _ (List.mem_cons_self ..))
    have hgj := blk_lt (I2.out.b _ (List.mem_cons_of_mem _ (List.mem_cons_self ..)))
    dsimp only at hgc hgj
    obtain ⟨w2, hw2⟩ : ∃ w2, w2 = w3.alloc (.cells #[.int .i64 kc, .int .i64 (kn : Int), .slice y1 sp.length m1, .slice y2 lp.length m2] 49) := ⟨_, rfl⟩
    rw [← hw2] at I2 q0' q1 q2 q3 j0 j1 hgc hgj
    rw [← hw2]
    clear hw2
    have q0 := q0'
    have hbd : Below w2.heap.size w2 w2.drew := (Below.refl _ w2).drew
    refine wp_region_held_drew (S := fun wx => Below w2.heap.size w2 wx) (by kernel_rfl) hbd (fun hHeld => ?_)
    refine wpAnyH_take (i := 0) (oi := { dst := some 24, op := Go.Op.load 44 (Go.Operand.tmp 3), type := 44, pos := "laws.go:595", after := #[], guard := none }) (v := .agg #[.slice x1 s.length k1, .slice x2 l.length k2]) rfl (by kernel_rfl) (by kernel_rfl) (by kernel_rfl) (fun _ _ _ h => h) (Or.inl ⟨by rfl, by intro w hSw; (try dsimp only at hSw); have ca := kept_cell hSw hgj j0; have cb := kept_cell hSw hgj j1; go_simp⟩) (by assumption) ?_
    simp only [Act.put, List.setIfInBounds_toArray, List.set_cons_zero, List.set_cons_succ]
    refine wpAnyH_take (i := 1) (oi := { dst := some 25, op := Go.Op.move (Go.Operand.tmp 4), type := 2, pos := "laws.go:595", after := #[], guard := none }) (v := .int .i64 q) rfl (by kernel_rfl) (by kernel_rfl) (by kernel_rfl) (fun _ _ _ h => h) (Or.inl ⟨by rfl, by intro w hSw; (try dsimp only at hSw); go_simp⟩) (by assumption) ?_
    simp only [Act.put, List.setIfInBounds_toArray, List.set_cons_zero, List.set_cons_succ]
    refine wpAnyH_take (i := 4) (oi := { dst := some 28, op := Go.Op.fieldAddr 49 (Go.Operand.tmp 5) 0, type := 0, pos := "laws.go:595", after := #[], guard := none }) (v := .pointer (some ⟨w3.heap.size, 0, none⟩)) rfl (by kernel_rfl) (by kernel_rfl) (by kernel_rfl) (fun _ _ _ h => h) (Or.inl ⟨by rfl, by intro w hSw; (try dsimp only at hSw); go_simp⟩) (by assumption) ?_
    simp only [Act.put, List.setIfInBounds_toArray, List.set_cons_zero, List.set_cons_succ]
    refine wpAnyH_take (i := 5) (oi := { dst := some 29, op := Go.Op.load 2 (Go.Operand.tmp 28), type := 2, pos := "laws.go:595", after := #[{ on := 4, ground := Go.Ground.data }], guard := none }) (v := .int .i64 kc) rfl (by kernel_rfl) (by kernel_rfl) (by kernel_rfl) (fun _ _ _ h => h) (Or.inl ⟨by rfl, by intro w hSw; (try dsimp only at hSw); have ca := kept_cell hSw hgc q0; go_simp⟩) (by assumption) ?_
    simp only [Act.put, List.setIfInBounds_toArray, List.set_cons_zero, List.set_cons_succ]
    refine wpAnyH_ready (rs := [2]) (by kernel_rfl) (by simp) ?_
    refine AllReadyH.cons (o := { dst := some 26, op := Go.Op.call { callee := Go.Callee.value (Go.Operand.func 41), args := #[Go.Operand.tmp 24, Go.Operand.tmp 25], argTypes := #[44, 2] }, type := 49, pos := "laws.go:595", after := #[{ on := 0, ground := Go.Ground.data }, { on := 1, ground := Go.Ground.data }], guard := none }) rfl (fun K hK => ?_) AllReadyH.nil
    go_simp
    go_at_call 41
    refine (HSP.out _ _ _ (I2.out.below hbd).p.1.o1.at (I2.out.below hbd).p.1.o2.at).mono ?_
    rintro z w7 ⟨z1, n1, z2, n2, rfl, hjo, hb7⟩
    have hbb : Below w2.heap.size w2 w7 := hbd.trans (hb7.mono hbd.size)
    clear hjo hb7
    go_wp2_with fail
    refine hK.out _ _ hbb (fun hHeld => ?_)
    clear hK K
    try simp only [Act.put, List.setIfInBounds_toArray, List.set_cons_zero, List.set_cons_succ]
    refine wpAnyH_take (i := 3) (oi := { dst := some 27, op := Go.Op.field 49 (Go.Operand.tmp 26) 0, type := 2, pos := "laws.go:595", after := #[{ on := 2, ground := Go.Ground.data }], guard := none }) (v := .int .i64 kc) rfl (by kernel_rfl) (by kernel_rfl) (by kernel_rfl) (fun _ _ _ h => h) (Or.inl ⟨by rfl, by intro w hSw; (try dsimp only at hSw); have hf := fldJ kc (kn : Int) (.slice z1 sp.length n1) (.slice z2 lp.length n2); go_simp⟩) (by assumption) ?_
    simp only [Act.put, List.setIfInBounds_toArray, List.set_cons_zero, List.set_cons_succ]
    refine wpAnyH_take (i := 6) (oi := { dst := some 30, op := Go.Op.binOp Go.BinOp.eql 2 (Go.Operand.tmp 27) (Go.Operand.tmp 29) 2, type := 4, pos := "laws.go:595", after := #[{ on := 3, ground := Go.Ground.data }, { on := 5, ground := Go.Ground.data }], guard := none }) (v := .bool true) rfl (by kernel_rfl) (by kernel_rfl) (by kernel_rfl) (fun _ _ _ h => h) (Or.inl ⟨by rfl, by intro w hSw; (try dsimp only at hSw); go_simp⟩) (by assumption) ?_
    simp only [Act.put, List.setIfInBounds_toArray, List.set_cons_zero, List.set_cons_succ]
    refine wpAnyH_take (i := 7) (oi := { dst := some 2, op := Go.Op.assign (Go.Operand.tmp 30), type := 4, pos := "laws.go:595", after := #[{ on := 6, ground := Go.Ground.data }, { on := 2, ground := Go.Ground.chain }, { on := 0, ground := Go.Ground.phase }, { on := 1, ground := Go.Ground.phase }, { on := 2, ground := Go.Ground.phase }, { on := 3, ground := Go.Ground.phase }, { on := 4, ground := Go.Ground.phase }, { on := 5, ground := Go.Ground.phase }, { on := 6, ground := Go.Ground.phase }], guard := none }) (v := .bool true) rfl (by kernel_rfl) (by kernel_rfl) (by kernel_rfl) (fun _ _ _ h => h) (Or.inl ⟨by rfl, by intro w hSw; (try dsimp only at hSw); go_simp⟩) (by assumption) ?_
    simp only [Act.put, List.setIfInBounds_toArray, List.set_cons_zero, List.set_cons_succ]
    refine wpAnyH_done (by kernel_rfl) ?_ _
    go_wp2
    go_ret
    exact ⟨rfl, (I2.out.below hbb).st⟩
theorem own : ownKnob Try.prog.godebug = none := by kernel_rfl
theorem laidOut : laidOutB Try.prog = true := by kernel_rfl
set_option maxRecDepth 100000 in
theorem lifted (os : Os) (started : os.Started) (H : Type) (enc : TypeId × Value → H) :
    ReturnsInHanded {} Try.checked os 11 .any (Rows.fnTornSpec.pre6 enc Try.prog Try.f11 Rows.fnTornRow.domain false) (Rows.fnTornSpec.post enc Try.prog Try.f11 false true false false) := by
  refine returnsInHanded_of_change (C := Try.checked) own started (by kernel_rfl) Try.func11
    (ChangeSpec.witness6 (enc := enc) (C := Try.checked) false ⟨#[], #[.slice none 0 0], []⟩ 8 (by kernel_rfl) (by kernel_rfl) (by kernel_rfl) (by kernel_rfl)) ?_
  intro W base args ds gs before hval0 hW hcnd _
  have hval : ∀ (j : Nat) t v, Try.f11.params[j]? = some t → args[j]? = some v → Value.okWide Try.prog W .any base t v := hval0
  have hW' := hW
  obtain ⟨p, q, hA0, hV, rfl, hfz, hnd⟩ := hW
  have hA : DataW.TrodAll enc Try.prog W 0 (fun _ => true) true Try.f11.params.toList args.toList ds p := hA0
  rw [Try.params11] at hA hval
  obtain ⟨v0, vs0, d0, ds0, p0, q0, hargs, rfl, rfl, h0, r0⟩ := trodAll_cons hA
  obtain ⟨rfl, rfl, rfl⟩ := trodAll_nil r0
  obtain rfl : args = #[v0] := by cases args; simp_all
  obtain ⟨rfl, rfl⟩ := trodVars_none hV
  obtain ⟨a0, len0, cap0, rfl⟩ := okWide_slice Try.underlying24 (hval 0 24 v0 rfl rfl)
  have k0 := h0
  have lt0 : ∀ x ∈ p0, x.block < W.heap.size := by obtain ⟨m, hm⟩ := k0; exact DataW.trod_lt m _ _ _ hm
  obtain ⟨ga0, gc0⟩ : Drw.CodeAt W.heap.size W a0 len0 ∧ len0 ≤ maxLen := by
    obtain ⟨fuel, hf⟩ := h0
    exact Drw.open_code (by simpa [Value.cells] using hf)
  clear hA0 hval0
  refine (walk a0 len0 cap0 W gc0 ga0).mono fun e W' ⟨he, bel⟩ => ?_
  subst he
  exact ⟨_, rfl, _, _, _, [], _, [], hW', trodAll_mk1 (shut_bool Try.underlying4 _), (trodAll_cons_mk (Below.trod laidOut (by kernel_rfl) (of_decide_eq_true (by kernel_rfl)) k0 bel lt0) trodAll_mk0), rfl, bel.frame _, fun h => by cases h⟩
theorem over : Rows.fnTornRow.holds Try.pinned (OpenSpec.ofChange Rows.fnTornSpec) :=
  OpenClaim.holds_of_wide 11 Try.f11 rfl rfl rfl rfl rfl rfl rfl ⟨rfl, rfl, rfl, rfl, rfl⟩ rfl rfl rfl rfl rfl (by kernel_rfl) Try.func11 (by kernel_rfl)
    (of_decide_eq_true (by kernel_rfl)) (by unfold Func.isWrapper; first | (rw [if_pos (by decide +kernel)]; kernel_rfl) | (rw [if_neg (by decide +kernel)]; exact ⟨rfl, rfl⟩))
    (fun os started H enc _ => lifted os started H enc)
end FtL
theorem fnTorn_holds : Rows.FnTornSaid := FtL.over
#print axioms fnTorn_holds
end Go.Proofs.Ytiliahibnhfhoaa
