/- Whatever code of bytes is handed in, the law FnLines answers true: a line that is packed reads as itself, once and twice, and bytes that are drawn read as the specification reads them; the bytes handed in read afterwards as before. No condition. -/
import Derived.Test.YtiliahibnhfhoaaRows
import Derived.ShutString
import Derived.ChangeOld
import Derived.ProofKit
import Derived.OpenShut
import Derived.Deep.CutRange
import Derived.Deep.RegionHeld3
import Derived.Test.YtiliahibnhfhoaaDrO
import Derived.Test.YtiliahibnhfhoaaJtE
namespace Go.Proofs.Ytiliahibnhfhoaa
open Go.ChangeShapes Go.WideShapes Go.ChangeAt Go.RowKit
open Go.ChangeMaps (open_string shut_string)
set_option linter.unusedVariables false
namespace FlL
open Jn
set_option maxRecDepth 100000 in
set_option maxHeartbeats 16000000 in
theorem walk (a : Option Addr) (len cap : Nat) (w : World) (hl : len ≤ maxLen) (hc : Drw.CodeAt w.heap.size w a len) :
    Calls Try.prog 10 #[.slice a len cap] w fun e w' => e = .returned (.bool true) ∧ Below w.heap.size w w' := by
  have HC := hid (fun w' (hb : Below w.heap.size w w') => code_up (code_below hc hb (Nat.le_refl _)) hb.size)
  have HC0 := hid hc
  clear hc
  by_cases q0 : (1048576 : Int) < (len : Int)
  · go_enter Try.func10, Try.ntmps10
    go_wp2_with (go_at_call 43; refine (Drw.big a len cap _).mono ?_; rintro e w9 ⟨rfl, hw9⟩; replace hw9 := hw9.symm; subst hw9)
    go_ret
    exact ⟨rfl, Below.refl _ _⟩
  have hln : len ≤ 1048576 := by omega
  go_enter Try.func10, Try.ntmps10
  go_wp2_with (go_at_call 43; refine (Drw.big a len cap _).mono ?_; rintro e w9 ⟨rfl, hw9⟩; replace hw9 := hw9.symm; subst hw9)
  refine (packD len cap a _ hln HC0.out).mono ?_
  rintro e w1 ⟨x, hx, rfl, hb1⟩
  have B1 := hid hb1
  have HIM := hid (fun w' => implPackLine x w' (by omega))
  have HSL := hid (fun w' => specLine x w' (by omega))
  have HIL := hid (fun w' => implLine x w' (by omega))
  have HT := hid (fun h => packed (x := x) h)
  unfold RPost at HIM
  clear hb1
  obtain ⟨sx, hsx⟩ : ∃ sx, sx = str x := ⟨_, rfl⟩
  rw [← hsx] at HIM HSL HIL
  rw [← hsx]
  have HSX := hid hsx
  clear hsx
  generalize packR x = pr at *
  generalize faultC x = kc at *
  go_wp2_with fail
  refine (HIM.out _).mono ?_
  rintro e w3 ⟨y1, m1, rfl, hop, hb3⟩
  have I0 : Jn.Hid (Inw w w3 [] (fun x => Ob x 0 (.slice y1 pr.length m1) pr)) := hid ⟨B1.out.trans (hb3.mono B1.out.size), (fun p hp => by cases hp), ob_mono hop (Nat.zero_le _), (fun x y h hb => h.below hb (Nat.le_refl _))⟩
  have I2 := hid (I0.out.add #[.int .i64 kc, .slice y1 pr.length m1] 26)
  clear I0 hop hb3 HIM B1
  have p0 := blk_cell (I2.out.b _ (List.mem_cons_self ..)) (o := 0) (v := .int .i64 kc) rfl
  have p1 := blk_cell (I2.out.b _ (List.mem_cons_self ..)) (o := 1) (v := .slice y1 pr.length m1) rfl
  have hgp := blk_lt (I2.out.b _ (List.mem_cons_self ..))
  dsimp only at hgp
  by_cases hz : kc = 0
  · have b0 : (kc != 0) = false := by simp [hz]
    have TT := HT.out hz
    have hprl := TT.len
    have h1 := TT.one
    have h2 := TT.two
    have h3 := TT.br
    have HR1 := hid (fun v w' h => implRead w'.heap.size pr v w' (by omega) (Nat.le_refl _) h)
    have HR2 : Jn.Hid (∀ (d : List UInt8) (B : Nat) (v : Value) (w' : World), d = pr ++ pr → B ≤ w'.heap.size → At w' B v d → Calls Try.prog 22 #[v] w' (QPost (pr ++ pr) w')) := hid (by intro d B v w' hd hB h; subst hd; exact implRead B (pr ++ pr) v w' (by rw [List.length_append]; omega) hB h)
    unfold QPost at HR1 HR2
    rw [h1] at HR1
    rw [h2, h3] at HR2
    generalize linesC pr = d1 at *
    generalize linesB pr = e1 at *
    generalize linesC (pr ++ pr) = d2 at *
    obtain ⟨ls1, hls1⟩ : ∃ ls1, ls1 = [x] := ⟨_, rfl⟩
    obtain ⟨ls2, hls2⟩ : ∃ ls2, ls2 = [x, x] := ⟨_, rfl⟩
    rw [← hls1] at HR1
    rw [← hls2] at HR2
    have HLS1 := hid hls1
    have HLS2 := hid hls2
    clear hz TT HT h1 h2 h3 hls1 hls2 HSL HIL
    go_wp2_with fail
    refine (HR1.out _ _ I2.out.p.at).mono ?_
    rintro e w4' ⟨a6, c6, rfl, ho6, hb6⟩
    have I4 := hid (((I2.out.below hb6).new (P' := fun x => Ob x 0 (.slice y1 pr.length m1) pr ∧ Jn.Os x 0 (.slice a6 ls1.length c6) ls1) ⟨(I2.out.below hb6).p, os_mono ho6 (Nat.zero_le _)⟩ (fun x y h hb => ⟨h.1.below hb (Nat.le_refl _), h.2.below hb (Nat.le_refl _)⟩)).add #[.int .i64 d1, .bool e1, .slice a6 ls1.length c6] 32)
    clear I2 ho6 hb6 p0 p1 hgp
    have p0 := blk_cell (I4.out.b _ (List.mem_cons_of_mem _ (List.mem_cons_self ..))) (o := 0) (v := .int .i64 kc) rfl
    have p1 := blk_cell (I4.out.b _ (List.mem_cons_of_mem _ (List.mem_cons_self ..))) (o := 1) (v := .slice y1 pr.length m1) rfl
    have hgp := blk_lt (I4.out.b _ (List.mem_cons_of_mem _ (List.mem_cons_self ..)))
    dsimp only at hgp
    go_upto_region 8 with fail
    obtain ⟨w4, hw4⟩ : ∃ w4, w4 = w4'.alloc (.cells #[.int .i64 d1, .bool e1, .slice a6 ls1.length c6] 32) := ⟨_, rfl⟩
    obtain ⟨go, hgo'⟩ : ∃ go, go = w4'.heap.size := ⟨_, rfl⟩
    obtain ⟨gp, hgp'⟩ : ∃ gp, gp = w3.heap.size := ⟨_, rfl⟩
    rw [← hw4, ← hgo', ← hgp'] at I4
    rw [← hw4, ← hgp'] at p0 p1 hgp
    rw [← hw4, ← hgo', ← hgp']
    clear hw4 hgo' hgp'
    go_cut [6] from 34 to 41 (fun g7 wx => ∃ (ga : Nat) (a7 : Option Addr) (c7 : Nat), g7 = .pointer (some ⟨ga, 0, none⟩) ∧ Jn.Hid (Inw w wx [(ga, #[.int .i64 d2, .bool false, .slice a7 ls2.length c7], 32), (go, #[.int .i64 d1, .bool e1, .slice a6 ls1.length c6], 32), (gp, #[.int .i64 kc, .slice y1 pr.length m1], 26)] (fun x => (Ob x 0 (.slice y1 pr.length m1) pr ∧ Jn.Os x 0 (.slice a6 ls1.length c6) ls1) ∧ Jn.Os x 0 (.slice a7 ls2.length c7) ls2)))
    case first =>
      have HM0' : AM w4 w4.drew (.slice none 0 0) [] := ⟨(Below.refl _ w4).drew, ob_nil _ _⟩
      have HM0 := hid HM0'
      clear HM0'
      refine wp_region_held_drew (S := fun wx => Below w4.heap.size w4 wx) (by kernel_rfl) HM0.out.hb (fun hHeld => ?_)
      obtain ⟨wd, hwd⟩ : ∃ wd, wd = w4.drew := ⟨_, rfl⟩
      rw [← hwd] at HM0
      rw [← hwd]
      clear hwd
      have hbd := HM0.out.hb
      refine wpAnyH_take (i := 1) (oi := { dst := some 35, op := Go.Op.fieldAddr 26 (Go.Operand.tmp 4) 1, type := 0, pos := "laws.go:580", after := #[], guard := none }) (v := .pointer (some ⟨gp, 1, none⟩)) rfl (by kernel_rfl) (by kernel_rfl) (by kernel_rfl) (fun _ _ _ h => h) (Or.inl ⟨by rfl, by intro w hSw; (try dsimp only at hSw); go_simp⟩) (by assumption) ?_
      simp only [Act.put, List.setIfInBounds_toArray, List.set_cons_zero, List.set_cons_succ]
      refine wpAnyH_take (i := 2) (oi := { dst := some 36, op := Go.Op.load 24 (Go.Operand.tmp 35), type := 24, pos := "laws.go:580", after := #[{ on := 1, ground := Go.Ground.data }], guard := none }) (v := .slice y1 pr.length m1) rfl (by kernel_rfl) (by kernel_rfl) (by kernel_rfl) (fun _ _ _ h => h) (Or.inl ⟨by rfl, by intro w hSw; (try dsimp only at hSw); have ca := kept_cell hSw hgp p1; go_simp⟩) (by assumption) ?_
      simp only [Act.put, List.setIfInBounds_toArray, List.set_cons_zero, List.set_cons_succ]
      refine wpAnyH_take (i := 4) (oi := { dst := some 38, op := Go.Op.fieldAddr 26 (Go.Operand.tmp 4) 1, type := 0, pos := "laws.go:580", after := #[], guard := none }) (v := .pointer (some ⟨gp, 1, none⟩)) rfl (by kernel_rfl) (by kernel_rfl) (by kernel_rfl) (fun _ _ _ h => h) (Or.inl ⟨by rfl, by intro w hSw; (try dsimp only at hSw); go_simp⟩) (by assumption) ?_
      simp only [Act.put, List.setIfInBounds_toArray, List.set_cons_zero, List.set_cons_succ]
      refine wpAnyH_take (i := 5) (oi := { dst := some 39, op := Go.Op.load 24 (Go.Operand.tmp 38), type := 24, pos := "laws.go:580", after := #[{ on := 4, ground := Go.Ground.data }], guard := none }) (v := .slice y1 pr.length m1) rfl (by kernel_rfl) (by kernel_rfl) (by kernel_rfl) (fun _ _ _ h => h) (Or.inl ⟨by rfl, by intro w hSw; (try dsimp only at hSw); have ca := kept_cell hSw hgp p1; go_simp⟩) (by assumption) ?_
      simp only [Act.put, List.setIfInBounds_toArray, List.set_cons_zero, List.set_cons_succ]
      refine wpAnyH_ready (rs := [0, 8]) (by kernel_rfl) (by simp) ?_
      refine AllReadyH.cons (o := { dst := some 34, op := Go.Op.buildSlice 24 0 #[], type := 24, pos := "laws.go:580", after := #[], guard := none }) rfl (fun K hK => ?_) (AllReadyH.cons (o := { dst := some 6, op := Go.Op.alloc 32, type := 0, pos := "laws.go:580", after := #[], guard := none }) rfl (fun K hK => ?_) AllReadyH.nil)
      · go_simp
        obtain ⟨t1, hw1⟩ : ∃ wn, wn = wd.alloc (.cells #[] 5) := ⟨_, rfl⟩
        rw [← hw1]
        have HM1 := hid (HM0.out.made hw1)
        clear hw1
        refine hK.out _ _ HM1.out.hb (fun hHeld => ?_)
        clear hK K
        try simp only [Act.put, List.setIfInBounds_toArray, List.set_cons_zero, List.set_cons_succ]
        refine wpAnyH_ready (rs := [3, 8]) (by kernel_rfl) (by simp) ?_
        refine AllReadyH.cons (o := { dst := some 37, op := Go.Op.call { callee := Go.Callee.builtin Go.Builtin.append, args := #[Go.Operand.tmp 34, Go.Operand.tmp 36], argTypes := #[24, 24] }, type := 24, pos := "laws.go:580", after := #[{ on := 0, ground := Go.Ground.data }, { on := 2, ground := Go.Ground.data }], guard := none }) rfl (fun K hK => ?_) (AllReadyH.cons (o := { dst := some 6, op := Go.Op.alloc 32, type := 0, pos := "laws.go:580", after := #[], guard := none }) rfl (fun K hK => ?_) AllReadyH.nil)
        · refine stepL _ (by rfl) _ _ (by rfl) w4.heap.size (.slice (some ⟨wd.heap.size, 0, none⟩) 0 0) [] (by rfl) HM1.out.o (.slice y1 pr.length m1) pr _ (by rfl) ((I4.out.below HM1.out.hb).p.1.at) (by simp; omega) HM1.out.hb.size ?_
          intro p22 a22 c22 t2 hG
          have HM2 := hid (HM1.out.grow hG)
          obtain rfl : pr = p22 := by rw [hG.eq, List.nil_append]
          clear hG
          refine hK.out _ _ HM2.out.hb (fun hHeld => ?_)
          clear hK K
          try simp only [Act.put, List.setIfInBounds_toArray, List.set_cons_zero, List.set_cons_succ]
          refine wpAnyH_ready (rs := [6, 8]) (by kernel_rfl) (by simp) ?_
          refine AllReadyH.cons (o := { dst := some 40, op := Go.Op.call { callee := Go.Callee.builtin Go.Builtin.append, args := #[Go.Operand.tmp 37, Go.Operand.tmp 39], argTypes := #[24, 24] }, type := 24, pos := "laws.go:580", after := #[{ on := 3, ground := Go.Ground.data }, { on := 5, ground := Go.Ground.data }, { on := 3, ground := Go.Ground.chain }], guard := none }) rfl (fun K hK => ?_) (AllReadyH.cons (o := { dst := some 6, op := Go.Op.alloc 32, type := 0, pos := "laws.go:580", after := #[], guard := none }) rfl (fun K hK => ?_) AllReadyH.nil)
          · refine stepL _ (by rfl) _ _ (by rfl) w4.heap.size (.slice a22 pr.length c22) pr (by rfl) HM2.out.o (.slice y1 pr.length m1) pr _ (by rfl) ((I4.out.below HM2.out.hb).p.1.at) (by omega) HM2.out.hb.size ?_
            intro p23 a23 c23 t3 hG
            have HM3 := hid (HM2.out.grow hG)
            have HE : Jn.Hid (p23 = pr ++ pr) := hid hG.eq
            clear hG
            refine hK.out _ _ HM3.out.hb (fun hHeld => ?_)
            clear hK K
            try simp only [Act.put, List.setIfInBounds_toArray, List.set_cons_zero, List.set_cons_succ]
            refine wpAnyH_ready (rs := [7, 8]) (by kernel_rfl) (by simp) ?_
            refine AllReadyH.cons (o := { dst := some 41, op := Go.Op.call { callee := Go.Callee.value (Go.Operand.func 22), args := #[Go.Operand.tmp 40], argTypes := #[24] }, type := 32, pos := "laws.go:580", after := #[{ on := 6, ground := Go.Ground.data }, { on := 6, ground := Go.Ground.chain }], guard := none }) rfl (fun K hK => ?_) (AllReadyH.cons (o := { dst := some 6, op := Go.Op.alloc 32, type := 0, pos := "laws.go:580", after := #[], guard := none }) rfl (fun K hK => ?_) AllReadyH.nil)
            · go_simp
              go_at_call 22
              refine (HR2.out _ _ _ _ HE.out (Nat.le_refl _) HM3.out.o.at).mono ?_
              rintro z t4 ⟨a7, c7, rfl, hos, hb7⟩
              have HM4 := hid (HM3.out.below hb7)
              have HOS := hid hos
              clear hos hb7
              go_wp2_with fail
              refine hK.out _ _ HM4.out.hb (fun hHeld => ?_)
              clear hK K
              try simp only [Act.put, List.setIfInBounds_toArray, List.set_cons_zero, List.set_cons_succ]
              refine wpAnyH_ready (rs := [8]) (by kernel_rfl) (by simp) ?_
              refine AllReadyH.cons (o := { dst := some 6, op := Go.Op.alloc 32, type := 0, pos := "laws.go:580", after := #[], guard := none }) rfl (fun K hK => ?_) AllReadyH.nil
              go_simp
              obtain ⟨t5, hw5⟩ : ∃ wn, wn = t4.alloc (.cells #[.int .i64 0, .bool false, .slice none 0 0] 32) := ⟨_, rfl⟩
              rw [← hw5]
              have HM5 := hid (HM4.out.var hw5)
              have HOS1 := hid (HOS.out.below (show Below t4.heap.size t4 t5 by rw [hw5]; exact (Below.refl _ t4).alloc (Nat.le_refl _) _) (Nat.le_refl _))
              have HNE : Jn.Hid (∀ b, (Value.slice a7 ls2.length c7).ownBlock = some b → b ≠ t4.heap.size) := hid (fun b e => by have := (HOS.out.lt b e).2; omega)
              clear HOS
              have HOS := HOS1
              clear HOS1
              clear hw5
              refine hK.out _ _ HM5.out.hb (fun hHeld => ?_)
              clear hK K
              try simp only [Act.put, List.setIfInBounds_toArray, List.set_cons_zero, List.set_cons_succ]
              refine wpAnyH_ready (rs := [9]) (by kernel_rfl) (by simp) ?_
              refine AllReadyH.cons (o := { dst := none, op := Go.Op.store 32 (Go.Operand.tmp 6) (Go.Operand.tmp 41), type := 0, pos := "laws.go:580", after := #[{ on := 8, ground := Go.Ground.data }, { on := 7, ground := Go.Ground.data }, { on := 7, ground := Go.Ground.chain }, { on := 0, ground := Go.Ground.phase }, { on := 1, ground := Go.Ground.phase }, { on := 2, ground := Go.Ground.phase }, { on := 3, ground := Go.Ground.phase }, { on := 4, ground := Go.Ground.phase }, { on := 5, ground := Go.Ground.phase }, { on := 6, ground := Go.Ground.phase }, { on := 7, ground := Go.Ground.phase }, { on := 8, ground := Go.Ground.phase }], guard := none }) rfl (fun K hK => ?_) AllReadyH.nil
              have z0 := blk_cell HM5.out.blk (o := 0) (v := .int .i64 0) rfl
              have z1 := blk_cell HM5.out.blk (o := 1) (v := .bool false) rfl
              have z2 := blk_cell HM5.out.blk (o := 2) (v := .slice none 0 0) rfl
              have f0 := blk_free (o := 0) HM5.out.blk
              have f1 := blk_free (o := 1) HM5.out.blk
              have f2 := blk_free (o := 2) HM5.out.blk
              have HF := HM5.out.close I4.out HOS.out HNE.out d2 false
              go_simp
              refine hK.out _ _ HF.2 (fun hHeld => ?_)
              clear hK K
              try simp only [Act.put, List.setIfInBounds_toArray, List.set_cons_zero, List.set_cons_succ]
              refine wpAnyH_done (by kernel_rfl) ?_ _
              go_wp2_with fail
              go_meet
              exact ⟨_, _, _, rfl, hid HF.1⟩
            · go_simp
              obtain ⟨t6, hw6⟩ : ∃ wn, wn = t3.alloc (.cells #[.int .i64 0, .bool false, .slice none 0 0] 32) := ⟨_, rfl⟩
              rw [← hw6]
              have HM6 := hid (HM3.out.var hw6)
              clear hw6
              refine hK.out _ _ HM6.out.hb (fun hHeld => ?_)
              clear hK K
              try simp only [Act.put, List.setIfInBounds_toArray, List.set_cons_zero, List.set_cons_succ]
              refine wpAnyH_ready (rs := [7]) (by kernel_rfl) (by simp) ?_
              refine AllReadyH.cons (o := { dst := some 41, op := Go.Op.call { callee := Go.Callee.value (Go.Operand.func 22), args := #[Go.Operand.tmp 40], argTypes := #[24] }, type := 32, pos := "laws.go:580", after := #[{ on := 6, ground := Go.Ground.data }, { on := 6, ground := Go.Ground.chain }], guard := none }) rfl (fun K hK => ?_) AllReadyH.nil
              go_simp
              go_at_call 22
              refine (HR2.out _ _ _ _ HE.out (Nat.le_refl _) HM6.out.o.at).mono ?_
              rintro z t7 ⟨a7, c7, rfl, hos, hb7⟩
              have HM7 := hid (HM6.out.below hb7)
              have HOS := hid hos
              have HNE : Jn.Hid (∀ b, (Value.slice a7 ls2.length c7).ownBlock = some b → b ≠ t3.heap.size) := hid (fun b e => by have := (hos.lt b e).1; have := blk_lt HM6.out.blk; omega)
              clear hos hb7
              go_wp2_with fail
              refine hK.out _ _ HM7.out.hb (fun hHeld => ?_)
              clear hK K
              try simp only [Act.put, List.setIfInBounds_toArray, List.set_cons_zero, List.set_cons_succ]
              refine wpAnyH_ready (rs := [9]) (by kernel_rfl) (by simp) ?_
              refine AllReadyH.cons (o := { dst := none, op := Go.Op.store 32 (Go.Operand.tmp 6) (Go.Operand.tmp 41), type := 0, pos := "laws.go:580", after := #[{ on := 8, ground := Go.Ground.data }, { on := 7, ground := Go.Ground.data }, { on := 7, ground := Go.Ground.chain }, { on := 0, ground := Go.Ground.phase }, { on := 1, ground := Go.Ground.phase }, { on := 2, ground := Go.Ground.phase }, { on := 3, ground := Go.Ground.phase }, { on := 4, ground := Go.Ground.phase }, { on := 5, ground := Go.Ground.phase }, { on := 6, ground := Go.Ground.phase }, { on := 7, ground := Go.Ground.phase }, { on := 8, ground := Go.Ground.phase }], guard := none }) rfl (fun K hK => ?_) AllReadyH.nil
              have z0 := blk_cell HM7.out.blk (o := 0) (v := .int .i64 0) rfl
              have z1 := blk_cell HM7.out.blk (o := 1) (v := .bool false) rfl
              have z2 := blk_cell HM7.out.blk (o := 2) (v := .slice none 0 0) rfl
              have f0 := blk_free (o := 0) HM7.out.blk
              have f1 := blk_free (o := 1) HM7.out.blk
              have f2 := blk_free (o := 2) HM7.out.blk
              have HF := HM7.out.close I4.out HOS.out HNE.out d2 false
              go_simp
              refine hK.out _ _ HF.2 (fun hHeld => ?_)
              clear hK K
              try simp only [Act.put, List.setIfInBounds_toArray, List.set_cons_zero, List.set_cons_succ]
              refine wpAnyH_done (by kernel_rfl) ?_ _
              go_wp2_with fail
              go_meet
              exact ⟨_, _, _, rfl, hid HF.1⟩
          · go_simp
            obtain ⟨t8, hw8⟩ : ∃ wn, wn = t2.alloc (.cells #[.int .i64 0, .bool false, .slice none 0 0] 32) := ⟨_, rfl⟩
            rw [← hw8]
            have HM8 := hid (HM2.out.var hw8)
            clear hw8
            refine hK.out _ _ HM8.out.hb (fun hHeld => ?_)
            clear hK K
            try simp only [Act.put, List.setIfInBounds_toArray, List.set_cons_zero, List.set_cons_succ]
            refine wpAnyH_ready (rs := [6]) (by kernel_rfl) (by simp) ?_
            refine AllReadyH.cons (o := { dst := some 40, op := Go.Op.call { callee := Go.Callee.builtin Go.Builtin.append, args := #[Go.Operand.tmp 37, Go.Operand.tmp 39], argTypes := #[24, 24] }, type := 24, pos := "laws.go:580", after := #[{ on := 3, ground := Go.Ground.data }, { on := 5, ground := Go.Ground.data }, { on := 3, ground := Go.Ground.chain }], guard := none }) rfl (fun K hK => ?_) AllReadyH.nil
            refine stepL _ (by rfl) _ _ (by rfl) w4.heap.size (.slice a22 pr.length c22) pr (by rfl) HM8.out.o (.slice y1 pr.length m1) pr _ (by rfl) ((I4.out.below HM8.out.hb).p.1.at) (by omega) HM8.out.hb.size ?_
            intro p29 a29 c29 t9 hG
            have HM9 := hid (HM8.out.grow hG)
            have HE : Jn.Hid (p29 = pr ++ pr) := hid hG.eq
            clear hG
            refine hK.out _ _ HM9.out.hb (fun hHeld => ?_)
            clear hK K
            try simp only [Act.put, List.setIfInBounds_toArray, List.set_cons_zero, List.set_cons_succ]
            refine wpAnyH_ready (rs := [7]) (by kernel_rfl) (by simp) ?_
            refine AllReadyH.cons (o := { dst := some 41, op := Go.Op.call { callee := Go.Callee.value (Go.Operand.func 22), args := #[Go.Operand.tmp 40], argTypes := #[24] }, type := 32, pos := "laws.go:580", after := #[{ on := 6, ground := Go.Ground.data }, { on := 6, ground := Go.Ground.chain }], guard := none }) rfl (fun K hK => ?_) AllReadyH.nil
            go_simp
            go_at_call 22
            refine (HR2.out _ _ _ _ HE.out (Nat.le_refl _) HM9.out.o.at).mono ?_
            rintro z t10 ⟨a7, c7, rfl, hos, hb7⟩
            have HM10 := hid (HM9.out.below hb7)
            have HOS := hid hos
            have HNE : Jn.Hid (∀ b, (Value.slice a7 ls2.length c7).ownBlock = some b → b ≠ t2.heap.size) := hid (fun b e => by have := (hos.lt b e).1; have := blk_lt HM9.out.blk; omega)
            clear hos hb7
            go_wp2_with fail
            refine hK.out _ _ HM10.out.hb (fun hHeld => ?_)
            clear hK K
            try simp only [Act.put, List.setIfInBounds_toArray, List.set_cons_zero, List.set_cons_succ]
            refine wpAnyH_ready (rs := [9]) (by kernel_rfl) (by simp) ?_
            refine AllReadyH.cons (o := { dst := none, op := Go.Op.store 32 (Go.Operand.tmp 6) (Go.Operand.tmp 41), type := 0, pos := "laws.go:580", after := #[{ on := 8, ground := Go.Ground.data }, { on := 7, ground := Go.Ground.data }, { on := 7, ground := Go.Ground.chain }, { on := 0, ground := Go.Ground.phase }, { on := 1, ground := Go.Ground.phase }, { on := 2, ground := Go.Ground.phase }, { on := 3, ground := Go.Ground.phase }, { on := 4, ground := Go.Ground.phase }, { on := 5, ground := Go.Ground.phase }, { on := 6, ground := Go.Ground.phase }, { on := 7, ground := Go.Ground.phase }, { on := 8, ground := Go.Ground.phase }], guard := none }) rfl (fun K hK => ?_) AllReadyH.nil
            have z0 := blk_cell HM10.out.blk (o := 0) (v := .int .i64 0) rfl
            have z1 := blk_cell HM10.out.blk (o := 1) (v := .bool false) rfl
            have z2 := blk_cell HM10.out.blk (o := 2) (v := .slice none 0 0) rfl
            have f0 := blk_free (o := 0) HM10.out.blk
            have f1 := blk_free (o := 1) HM10.out.blk
            have f2 := blk_free (o := 2) HM10.out.blk
            have HF := HM10.out.close I4.out HOS.out HNE.out d2 false
            go_simp
            refine hK.out _ _ HF.2 (fun hHeld => ?_)
            clear hK K
            try simp only [Act.put, List.setIfInBounds_toArray, List.set_cons_zero, List.set_cons_succ]
            refine wpAnyH_done (by kernel_rfl) ?_ _
            go_wp2_with fail
            go_meet
            exact ⟨_, _, _, rfl, hid HF.1⟩
        · go_simp
          obtain ⟨t11, hw11⟩ : ∃ wn, wn = t1.alloc (.cells #[.int .i64 0, .bool false, .slice none 0 0] 32) := ⟨_, rfl⟩
          rw [← hw11]
          have HM11 := hid (HM1.out.var hw11)
          clear hw11
          refine hK.out _ _ HM11.out.hb (fun hHeld => ?_)
          clear hK K
          try simp only [Act.put, List.setIfInBounds_toArray, List.set_cons_zero, List.set_cons_succ]
          refine wpAnyH_ready (rs := [3]) (by kernel_rfl) (by simp) ?_
          refine AllReadyH.cons (o := { dst := some 37, op := Go.Op.call { callee := Go.Callee.builtin Go.Builtin.append, args := #[Go.Operand.tmp 34, Go.Operand.tmp 36], argTypes := #[24, 24] }, type := 24, pos := "laws.go:580", after := #[{ on := 0, ground := Go.Ground.data }, { on := 2, ground := Go.Ground.data }], guard := none }) rfl (fun K hK => ?_) AllReadyH.nil
          refine stepL _ (by rfl) _ _ (by rfl) w4.heap.size (.slice (some ⟨wd.heap.size, 0, none⟩) 0 0) [] (by rfl) HM11.out.o (.slice y1 pr.length m1) pr _ (by rfl) ((I4.out.below HM11.out.hb).p.1.at) (by simp; omega) HM11.out.hb.size ?_
          intro p32 a32 c32 t12 hG
          have HM12 := hid (HM11.out.grow hG)
          obtain rfl : pr = p32 := by rw [hG.eq, List.nil_append]
          clear hG
          refine hK.out _ _ HM12.out.hb (fun hHeld => ?_)
          clear hK K
          try simp only [Act.put, List.setIfInBounds_toArray, List.set_cons_zero, List.set_cons_succ]
          refine wpAnyH_ready (rs := [6]) (by kernel_rfl) (by simp) ?_
          refine AllReadyH.cons (o := { dst := some 40, op := Go.Op.call { callee := Go.Callee.builtin Go.Builtin.append, args := #[Go.Operand.tmp 37, Go.Operand.tmp 39], argTypes := #[24, 24] }, type := 24, pos := "laws.go:580", after := #[{ on := 3, ground := Go.Ground.data }, { on := 5, ground := Go.Ground.data }, { on := 3, ground := Go.Ground.chain }], guard := none }) rfl (fun K hK => ?_) AllReadyH.nil
          refine stepL _ (by rfl) _ _ (by rfl) w4.heap.size (.slice a32 pr.length c32) pr (by rfl) HM12.out.o (.slice y1 pr.length m1) pr _ (by rfl) ((I4.out.below HM12.out.hb).p.1.at) (by omega) HM12.out.hb.size ?_
          intro p33 a33 c33 t13 hG
          have HM13 := hid (HM12.out.grow hG)
          have HE : Jn.Hid (p33 = pr ++ pr) := hid hG.eq
          clear hG
          refine hK.out _ _ HM13.out.hb (fun hHeld => ?_)
          clear hK K
          try simp only [Act.put, List.setIfInBounds_toArray, List.set_cons_zero, List.set_cons_succ]
          refine wpAnyH_ready (rs := [7]) (by kernel_rfl) (by simp) ?_
          refine AllReadyH.cons (o := { dst := some 41, op := Go.Op.call { callee := Go.Callee.value (Go.Operand.func 22), args := #[Go.Operand.tmp 40], argTypes := #[24] }, type := 32, pos := "laws.go:580", after := #[{ on := 6, ground := Go.Ground.data }, { on := 6, ground := Go.Ground.chain }], guard := none }) rfl (fun K hK => ?_) AllReadyH.nil
          go_simp
          go_at_call 22
          refine (HR2.out _ _ _ _ HE.out (Nat.le_refl _) HM13.out.o.at).mono ?_
          rintro z t14 ⟨a7, c7, rfl, hos, hb7⟩
          have HM14 := hid (HM13.out.below hb7)
          have HOS := hid hos
          have HNE : Jn.Hid (∀ b, (Value.slice a7 ls2.length c7).ownBlock = some b → b ≠ t1.heap.size) := hid (fun b e => by have := (hos.lt b e).1; have := blk_lt HM13.out.blk; omega)
          clear hos hb7
          go_wp2_with fail
          refine hK.out _ _ HM14.out.hb (fun hHeld => ?_)
          clear hK K
          try simp only [Act.put, List.setIfInBounds_toArray, List.set_cons_zero, List.set_cons_succ]
          refine wpAnyH_ready (rs := [9]) (by kernel_rfl) (by simp) ?_
          refine AllReadyH.cons (o := { dst := none, op := Go.Op.store 32 (Go.Operand.tmp 6) (Go.Operand.tmp 41), type := 0, pos := "laws.go:580", after := #[{ on := 8, ground := Go.Ground.data }, { on := 7, ground := Go.Ground.data }, { on := 7, ground := Go.Ground.chain }, { on := 0, ground := Go.Ground.phase }, { on := 1, ground := Go.Ground.phase }, { on := 2, ground := Go.Ground.phase }, { on := 3, ground := Go.Ground.phase }, { on := 4, ground := Go.Ground.phase }, { on := 5, ground := Go.Ground.phase }, { on := 6, ground := Go.Ground.phase }, { on := 7, ground := Go.Ground.phase }, { on := 8, ground := Go.Ground.phase }], guard := none }) rfl (fun K hK => ?_) AllReadyH.nil
          have z0 := blk_cell HM14.out.blk (o := 0) (v := .int .i64 0) rfl
          have z1 := blk_cell HM14.out.blk (o := 1) (v := .bool false) rfl
          have z2 := blk_cell HM14.out.blk (o := 2) (v := .slice none 0 0) rfl
          have f0 := blk_free (o := 0) HM14.out.blk
          have f1 := blk_free (o := 1) HM14.out.blk
          have f2 := blk_free (o := 2) HM14.out.blk
          have HF := HM14.out.close I4.out HOS.out HNE.out d2 false
          go_simp
          refine hK.out _ _ HF.2 (fun hHeld => ?_)
          clear hK K
          try simp only [Act.put, List.setIfInBounds_toArray, List.set_cons_zero, List.set_cons_succ]
          refine wpAnyH_done (by kernel_rfl) ?_ _
          go_wp2_with fail
          go_meet
          exact ⟨_, _, _, rfl, hid HF.1⟩
      · go_simp
        obtain ⟨t15, hw15⟩ : ∃ wn, wn = wd.alloc (.cells #[.int .i64 0, .bool false, .slice none 0 0] 32) := ⟨_, rfl⟩
        rw [← hw15]
        have HM15 := hid (HM0.out.var hw15)
        clear hw15
        refine hK.out _ _ HM15.out.hb (fun hHeld => ?_)
        clear hK K
        try simp only [Act.put, List.setIfInBounds_toArray, List.set_cons_zero, List.set_cons_succ]
        refine wpAnyH_ready (rs := [0]) (by kernel_rfl) (by simp) ?_
        refine AllReadyH.cons (o := { dst := some 34, op := Go.Op.buildSlice 24 0 #[], type := 24, pos := "laws.go:580", after := #[], guard := none }) rfl (fun K hK => ?_) AllReadyH.nil
        go_simp
        obtain ⟨t16, hw16⟩ : ∃ wn, wn = t15.alloc (.cells #[] 5) := ⟨_, rfl⟩
        rw [← hw16]
        have HM16 := hid (HM15.out.made hw16)
        clear hw16
        refine hK.out _ _ HM16.out.hb (fun hHeld => ?_)
        clear hK K
        try simp only [Act.put, List.setIfInBounds_toArray, List.set_cons_zero, List.set_cons_succ]
        refine wpAnyH_ready (rs := [3]) (by kernel_rfl) (by simp) ?_
        refine AllReadyH.cons (o := { dst := some 37, op := Go.Op.call { callee := Go.Callee.builtin Go.Builtin.append, args := #[Go.Operand.tmp 34, Go.Operand.tmp 36], argTypes := #[24, 24] }, type := 24, pos := "laws.go:580", after := #[{ on := 0, ground := Go.Ground.data }, { on := 2, ground := Go.Ground.data }], guard := none }) rfl (fun K hK => ?_) AllReadyH.nil
        refine stepL _ (by rfl) _ _ (by rfl) w4.heap.size (.slice (some ⟨t15.heap.size, 0, none⟩) 0 0) [] (by rfl) HM16.out.o (.slice y1 pr.length m1) pr _ (by rfl) ((I4.out.below HM16.out.hb).p.1.at) (by simp; omega) HM16.out.hb.size ?_
        intro p37 a37 c37 t17 hG
        have HM17 := hid (HM16.out.grow hG)
        obtain rfl : pr = p37 := by rw [hG.eq, List.nil_append]
        clear hG
        refine hK.out _ _ HM17.out.hb (fun hHeld => ?_)
        clear hK K
        try simp only [Act.put, List.setIfInBounds_toArray, List.set_cons_zero, List.set_cons_succ]
        refine wpAnyH_ready (rs := [6]) (by kernel_rfl) (by simp) ?_
        refine AllReadyH.cons (o := { dst := some 40, op := Go.Op.call { callee := Go.Callee.builtin Go.Builtin.append, args := #[Go.Operand.tmp 37, Go.Operand.tmp 39], argTypes := #[24, 24] }, type := 24, pos := "laws.go:580", after := #[{ on := 3, ground := Go.Ground.data }, { on := 5, ground := Go.Ground.data }, { on := 3, ground := Go.Ground.chain }], guard := none }) rfl (fun K hK => ?_) AllReadyH.nil
        refine stepL _ (by rfl) _ _ (by rfl) w4.heap.size (.slice a37 pr.length c37) pr (by rfl) HM17.out.o (.slice y1 pr.length m1) pr _ (by rfl) ((I4.out.below HM17.out.hb).p.1.at) (by omega) HM17.out.hb.size ?_
        intro p38 a38 c38 t18 hG
        have HM18 := hid (HM17.out.grow hG)
        have HE : Jn.Hid (p38 = pr ++ pr) := hid hG.eq
        clear hG
        refine hK.out _ _ HM18.out.hb (fun hHeld => ?_)
        clear hK K
        try simp only [Act.put, List.setIfInBounds_toArray, List.set_cons_zero, List.set_cons_succ]
        refine wpAnyH_ready (rs := [7]) (by kernel_rfl) (by simp) ?_
        refine AllReadyH.cons (o := { dst := some 41, op := Go.Op.call { callee := Go.Callee.value (Go.Operand.func 22), args := #[Go.Operand.tmp 40], argTypes := #[24] }, type := 32, pos := "laws.go:580", after := #[{ on := 6, ground := Go.Ground.data }, { on := 6, ground := Go.Ground.chain }], guard := none }) rfl (fun K hK => ?_) AllReadyH.nil
        go_simp
        go_at_call 22
        refine (HR2.out _ _ _ _ HE.out (Nat.le_refl _) HM18.out.o.at).mono ?_
        rintro z t19 ⟨a7, c7, rfl, hos, hb7⟩
        have HM19 := hid (HM18.out.below hb7)
        have HOS := hid hos
        have HNE : Jn.Hid (∀ b, (Value.slice a7 ls2.length c7).ownBlock = some b → b ≠ wd.heap.size) := hid (fun b e => by have := (hos.lt b e).1; have := blk_lt HM18.out.blk; omega)
        clear hos hb7
        go_wp2_with fail
        refine hK.out _ _ HM19.out.hb (fun hHeld => ?_)
        clear hK K
        try simp only [Act.put, List.setIfInBounds_toArray, List.set_cons_zero, List.set_cons_succ]
        refine wpAnyH_ready (rs := [9]) (by kernel_rfl) (by simp) ?_
        refine AllReadyH.cons (o := { dst := none, op := Go.Op.store 32 (Go.Operand.tmp 6) (Go.Operand.tmp 41), type := 0, pos := "laws.go:580", after := #[{ on := 8, ground := Go.Ground.data }, { on := 7, ground := Go.Ground.data }, { on := 7, ground := Go.Ground.chain }, { on := 0, ground := Go.Ground.phase }, { on := 1, ground := Go.Ground.phase }, { on := 2, ground := Go.Ground.phase }, { on := 3, ground := Go.Ground.phase }, { on := 4, ground := Go.Ground.phase }, { on := 5, ground := Go.Ground.phase }, { on := 6, ground := Go.Ground.phase }, { on := 7, ground := Go.Ground.phase }, { on := 8, ground := Go.Ground.phase }], guard := none }) rfl (fun K hK => ?_) AllReadyH.nil
        have z0 := blk_cell HM19.out.blk (o := 0) (v := .int .i64 0) rfl
        have z1 := blk_cell HM19.out.blk (o := 1) (v := .bool false) rfl
        have z2 := blk_cell HM19.out.blk (o := 2) (v := .slice none 0 0) rfl
        have f0 := blk_free (o := 0) HM19.out.blk
        have f1 := blk_free (o := 1) HM19.out.blk
        have f2 := blk_free (o := 2) HM19.out.blk
        have HF := HM19.out.close I4.out HOS.out HNE.out d2 false
        go_simp
        refine hK.out _ _ HF.2 (fun hHeld => ?_)
        clear hK K
        try simp only [Act.put, List.setIfInBounds_toArray, List.set_cons_zero, List.set_cons_succ]
        refine wpAnyH_done (by kernel_rfl) ?_ _
        go_wp2_with fail
        go_meet
        exact ⟨_, _, _, rfl, hid HF.1⟩
    case rest =>
      obtain ⟨gt, a7, c7, rfl, I7⟩ := hcut
      clear I4 p0 p1 hgp HR1 HR2
      go_wp2_with fail
      refine (readD len cap a _ hln (HC.out _ I7.out.st)).mono ?_
      rintro e wA ⟨d, ad, cd, rfl, had, hdl, hbA⟩
      have I8 := hid (I7.out.below hbA)
      have HA := hid (fun wx (hb : Below wA.heap.size wA wx) => had.below hb (Nat.le_refl _))
      have HRI := hid (fun B v w' hB h => implRead B d v w' (by omega) hB h)
      have HRS := hid (fun B v w' hB h => specRead B d v w' (by omega) hB h)
      have h3l : (linesL d).length ≤ 1048576 := by
        unfold linesL
        split
        · simp
        · have := readL_count d; omega
      unfold QPost at HRI HRS
      generalize linesC d = d3 at *
      generalize linesB d = e3 at *
      generalize linesL d = ls3 at *
      clear I7 had hbA
      go_wp2_with fail
      refine (HRI.out _ _ _ (Nat.le_refl _) (HA.out _ (Below.refl _ _))).mono ?_
      rintro e wB ⟨a8, c8, rfl, ho8, hbB⟩
      have hbX : Below wB.heap.size wB (wB.alloc (.cells #[.int .i64 d3, .bool e3, .slice a8 ls3.length c8] 32)) := (Below.refl wB.heap.size wB).alloc (Nat.le_refl _) _
      have HAB := hid (HA.out _ (hbB.trans (hbX.mono hbB.size)))
      have HSZ := hid (show wA.heap.size ≤ (wB.alloc (.cells #[.int .i64 d3, .bool e3, .slice a8 ls3.length c8] 32)).heap.size from Nat.le_trans hbB.size hbX.size)
      have I9 := hid (((I8.out.below hbB).new (P' := fun x => ((Ob x 0 (.slice y1 pr.length m1) pr ∧ Jn.Os x 0 (.slice a6 ls1.length c6) ls1) ∧ Jn.Os x 0 (.slice a7 ls2.length c7) ls2) ∧ Jn.Os x 0 (.slice a8 ls3.length c8) ls3) ⟨(I8.out.below hbB).p, os_mono ho8 (Nat.zero_le _)⟩ (fun x y h hb => ⟨⟨⟨h.1.1.1.below hb (Nat.le_refl _), h.1.1.2.below hb (Nat.le_refl _)⟩, h.1.2.below hb (Nat.le_refl _)⟩, h.2.below hb (Nat.le_refl _)⟩)).add #[.int .i64 d3, .bool e3, .slice a8 ls3.length c8] 32)
      clear I8 ho8 hbB hbX HA
      go_wp2_with fail
      refine (HRS.out _ _ _ HSZ.out HAB.out).mono ?_
      rintro e wC ⟨a9, c9, rfl, ho9, hbC⟩
      have I5 := hid (((I9.out.below hbC).new (P' := fun x => (((Ob x 0 (.slice y1 pr.length m1) pr ∧ Jn.Os x 0 (.slice a6 ls1.length c6) ls1) ∧ Jn.Os x 0 (.slice a7 ls2.length c7) ls2) ∧ Jn.Os x 0 (.slice a8 ls3.length c8) ls3) ∧ Jn.Os x 0 (.slice a9 ls3.length c9) ls3) ⟨(I9.out.below hbC).p, os_mono ho9 (Nat.zero_le _)⟩ (fun x y h hb => ⟨⟨⟨⟨h.1.1.1.1.below hb (Nat.le_refl _), h.1.1.1.2.below hb (Nat.le_refl _)⟩, h.1.1.2.below hb (Nat.le_refl _)⟩, h.1.2.below hb (Nat.le_refl _)⟩, h.2.below hb (Nat.le_refl _)⟩)).add #[.int .i64 d3, .bool e3, .slice a9 ls3.length c9] 32)
      clear I9 ho9 hbC HAB HSZ HRI HRS
      go_upto_region 12 with fail
      obtain ⟨w5, hw5⟩ : ∃ w5, w5 = wC.alloc (.cells #[.int .i64 d3, .bool e3, .slice a9 ls3.length c9] 32) := ⟨_, rfl⟩
      obtain ⟨gs, hgs'⟩ : ∃ gs, gs = wC.heap.size := ⟨_, rfl⟩
      obtain ⟨gr, hgr'⟩ : ∃ gr, gr = wB.heap.size := ⟨_, rfl⟩
      rw [← hw5, ← hgs', ← hgr'] at I5
      rw [← hw5, ← hgs', ← hgr']
      clear hw5 hgs' hgr'
      have bq1 : ((ls1.length : Int) == 1) = true := by rw [HLS1.out]; rfl
      have bq2 : ((ls2.length : Int) == 2) = true := by rw [HLS2.out]; rfl
      have n1 : 0 < ls1.length := by rw [HLS1.out]; simp
      have n2 : 1 < ls2.length := by rw [HLS2.out]; simp
      have i1 : (0 : Int) < (ls1.length : Int) := by omega
      have i2 : (1 : Int) < (ls2.length : Int) := by omega
      have hs1 : str ls1[0] = sx := by rw [HSX.out]; congr 1; simp [HLS1.out]
      have hs2 : str ls2[1] = sx := by rw [HSX.out]; congr 1; simp [HLS2.out]
      obtain ⟨gq, rfl, hgq, hcq⟩ := I5.out.p.1.1.1.2.cell n1
      obtain ⟨gv, rfl, hgv, hcv⟩ := I5.out.p.1.1.2.cell n2
      rw [hs1] at hcq
      rw [hs2] at hcv
      have HLgq := hid hgq
      have HCgq := hid hcq
      have HLgv := hid hgv
      have HCgv := hid hcv
      clear hgq hcq hgv hcv hs1 hs2 HLS1 HLS2
      have gs0 := blk_cell (I5.out.b _ (List.mem_cons_self ..)) (o := 0) (v := .int .i64 d3) rfl
      have gs1 := blk_cell (I5.out.b _ (List.mem_cons_self ..)) (o := 1) (v := .bool e3) rfl
      have gs2 := blk_cell (I5.out.b _ (List.mem_cons_self ..)) (o := 2) (v := .slice a9 ls3.length c9) rfl
      have hgs := blk_lt (I5.out.b _ (List.mem_cons_self ..))
      have gr0 := blk_cell (I5.out.b _ (List.mem_cons_of_mem _ (List.mem_cons_self ..))) (o := 0) (v := .int .i64 d3) rfl
      have gr1 := blk_cell (I5.out.b _ (List.mem_cons_of_mem _ (List.mem_cons_self ..))) (o := 1) (v := .bool e3) rfl
      have gr2 := blk_cell (I5.out.b _ (List.mem_cons_of_mem _ (List.mem_cons_self ..))) (o := 2) (v := .slice a8 ls3.length c8) rfl
      have hgr := blk_lt (I5.out.b _ (List.mem_cons_of_mem _ (List.mem_cons_self ..)))
      have gt0 := blk_cell (I5.out.b _ (List.mem_cons_of_mem _ (List.mem_cons_of_mem _ (List.mem_cons_self ..)))) (o := 0) (v := .int .i64 d2) rfl
      have gt1 := blk_cell (I5.out.b _ (List.mem_cons_of_mem _ (List.mem_cons_of_mem _ (List.mem_cons_self ..)))) (o := 1) (v := .bool false) rfl
      have gt2 := blk_cell (I5.out.b _ (List.mem_cons_of_mem _ (List.mem_cons_of_mem _ (List.mem_cons_self ..)))) (o := 2) (v := .slice (some ⟨gv, 0, none⟩) ls2.length c7) rfl
      have hgt := blk_lt (I5.out.b _ (List.mem_cons_of_mem _ (List.mem_cons_of_mem _ (List.mem_cons_self ..))))
      have go0 := blk_cell (I5.out.b _ (List.mem_cons_of_mem _ (List.mem_cons_of_mem _ (List.mem_cons_of_mem _ (List.mem_cons_self ..))))) (o := 0) (v := .int .i64 d1) rfl
      have go1 := blk_cell (I5.out.b _ (List.mem_cons_of_mem _ (List.mem_cons_of_mem _ (List.mem_cons_of_mem _ (List.mem_cons_self ..))))) (o := 1) (v := .bool e1) rfl
      have go2 := blk_cell (I5.out.b _ (List.mem_cons_of_mem _ (List.mem_cons_of_mem _ (List.mem_cons_of_mem _ (List.mem_cons_self ..))))) (o := 2) (v := .slice (some ⟨gq, 0, none⟩) ls1.length c6) rfl
      have hgo := blk_lt (I5.out.b _ (List.mem_cons_of_mem _ (List.mem_cons_of_mem _ (List.mem_cons_of_mem _ (List.mem_cons_self ..)))))
      have gp0 := blk_cell (I5.out.b _ (List.mem_cons_of_mem _ (List.mem_cons_of_mem _ (List.mem_cons_of_mem _ (List.mem_cons_of_mem _ (List.mem_cons_self ..)))))) (o := 0) (v := .int .i64 kc) rfl
      have gp1 := blk_cell (I5.out.b _ (List.mem_cons_of_mem _ (List.mem_cons_of_mem _ (List.mem_cons_of_mem _ (List.mem_cons_of_mem _ (List.mem_cons_self ..)))))) (o := 1) (v := .slice y1 pr.length m1) rfl
      have hgp := blk_lt (I5.out.b _ (List.mem_cons_of_mem _ (List.mem_cons_of_mem _ (List.mem_cons_of_mem _ (List.mem_cons_of_mem _ (List.mem_cons_self ..))))))
      dsimp only at hgs hgr hgt hgo hgp
      have hne : (sx.toList == sx.toList) = true := by simp
      have hb3 : (e3 == e3) = true := by simp
      have HLT := hid (fun w' (h : Inw w w' [(gs, #[.int .i64 d3, .bool e3, .slice a9 ls3.length c9], 32), (gr, #[.int .i64 d3, .bool e3, .slice a8 ls3.length c8], 32), (gt, #[.int .i64 d2, .bool false, .slice (some ⟨gv, 0, none⟩) ls2.length c7], 32), (go, #[.int .i64 d1, .bool e1, .slice (some ⟨gq, 0, none⟩) ls1.length c6], 32), (gp, #[.int .i64 kc, .slice y1 pr.length m1], 26)] (fun x => (((Ob x 0 (.slice y1 pr.length m1) pr ∧ Jn.Os x 0 (.slice (some ⟨gq, 0, none⟩) ls1.length c6) ls1) ∧ Jn.Os x 0 (.slice (some ⟨gv, 0, none⟩) ls2.length c7) ls2) ∧ Jn.Os x 0 (.slice a8 ls3.length c8) ls3) ∧ Jn.Os x 0 (.slice a9 ls3.length c9) ls3)) => lwT 0 0 a8 a9 c8 c9 c9 ls3.length ls3 ls3 w' h3l List.prefix_rfl h.p.1.2 h.p.2)
      have hcq := HCgq.out
      have hcv := HCgv.out
      go_wp2_with fail
      refine (HLT.out _ I5.out).mono ?_
      rintro e w6 ⟨rfl, hb6⟩
      have I6 := hid (I5.out.below hb6)
      clear hb6
      go_wp2
      go_ret
      exact ⟨rfl, I6.out.st⟩
  · have b0 : (kc != 0) = true := by simpa using hz
    have b1 : (kc == kc) = true := by simp
    clear HT hz
    go_upto_region 6 with fail
    obtain ⟨w2, hw2⟩ : ∃ w2, w2 = w3.alloc (.cells #[.int .i64 kc, .slice y1 pr.length m1] 26) := ⟨_, rfl⟩
    rw [← hw2] at I2 p0 p1 hgp
    rw [← hw2]
    clear hw2
    have hbd : Below w2.heap.size w2 w2.drew := (Below.refl _ w2).drew
    refine wp_region_held_drew (S := fun wx => Below w2.heap.size w2 wx) (by kernel_rfl) hbd (fun hHeld => ?_)
    refine wpAnyH_take (i := 0) (oi := { dst := some 19, op := Go.Op.move (Go.Operand.tmp 3), type := 9, pos := "laws.go:577", after := #[], guard := none }) (v := .string sx) rfl (by kernel_rfl) (by kernel_rfl) (by kernel_rfl) (fun _ _ _ h => h) (Or.inl ⟨by rfl, by intro w hSw; (try dsimp only at hSw); go_simp⟩) (by assumption) ?_
    simp only [Act.put, List.setIfInBounds_toArray, List.set_cons_zero, List.set_cons_succ]
    refine wpAnyH_take (i := 2) (oi := { dst := some 21, op := Go.Op.fieldAddr 26 (Go.Operand.tmp 4) 0, type := 0, pos := "laws.go:577", after := #[], guard := none }) (v := .pointer (some ⟨w3.heap.size, 0, none⟩)) rfl (by kernel_rfl) (by kernel_rfl) (by kernel_rfl) (fun _ _ _ h => h) (Or.inl ⟨by rfl, by intro w hSw; (try dsimp only at hSw); go_simp⟩) (by assumption) ?_
    simp only [Act.put, List.setIfInBounds_toArray, List.set_cons_zero, List.set_cons_succ]
    refine wpAnyH_take (i := 3) (oi := { dst := some 22, op := Go.Op.load 2 (Go.Operand.tmp 21), type := 2, pos := "laws.go:577", after := #[{ on := 2, ground := Go.Ground.data }], guard := none }) (v := .int .i64 kc) rfl (by kernel_rfl) (by kernel_rfl) (by kernel_rfl) (fun _ _ _ h => h) (Or.inl ⟨by rfl, by intro w hSw; (try dsimp only at hSw); have ca := kept_cell hSw hgp p0; go_simp⟩) (by assumption) ?_
    simp only [Act.put, List.setIfInBounds_toArray, List.set_cons_zero, List.set_cons_succ]
    refine wpAnyH_ready (rs := [1]) (by kernel_rfl) (by simp) ?_
    refine AllReadyH.cons (o := { dst := some 20, op := Go.Op.call { callee := Go.Callee.value (Go.Operand.func 13), args := #[Go.Operand.tmp 19], argTypes := #[9] }, type := 2, pos := "laws.go:577", after := #[{ on := 0, ground := Go.Ground.data }], guard := none }) rfl (fun K hK => ?_) AllReadyH.nil
    go_simp
    go_at_call 13
    refine (HSL.out _).mono ?_
    rintro z w7 ⟨rfl, hw7⟩
    have hbb : Below w2.heap.size w2 w7 := by rw [hw7]; exact hbd
    clear hw7
    go_wp2_with fail
    refine hK.out _ _ hbb (fun hHeld => ?_)
    clear hK K
    try simp only [Act.put, List.setIfInBounds_toArray, List.set_cons_zero, List.set_cons_succ]
    refine wpAnyH_take (i := 4) (oi := { dst := some 23, op := Go.Op.binOp Go.BinOp.eql 2 (Go.Operand.tmp 20) (Go.Operand.tmp 22) 2, type := 4, pos := "laws.go:577", after := #[{ on := 1, ground := Go.Ground.data }, { on := 3, ground := Go.Ground.data }], guard := none }) (v := .bool true) rfl (by kernel_rfl) (by kernel_rfl) (by kernel_rfl) (fun _ _ _ h => h) (Or.inl ⟨by rfl, by intro w hSw; (try dsimp only at hSw); go_simp⟩) (by assumption) ?_
    simp only [Act.put, List.setIfInBounds_toArray, List.set_cons_zero, List.set_cons_succ]
    refine wpAnyH_take (i := 5) (oi := { dst := some 24, op := Go.Op.move (Go.Operand.tmp 23), type := 4, pos := "laws.go:577", after := #[{ on := 4, ground := Go.Ground.data }, { on := 1, ground := Go.Ground.chain }], guard := none }) (v := .bool true) rfl (by kernel_rfl) (by kernel_rfl) (by kernel_rfl) (fun _ _ _ h => h) (Or.inl ⟨by rfl, by intro w hSw; (try dsimp only at hSw); go_simp⟩) (by assumption) ?_
    simp only [Act.put, List.setIfInBounds_toArray, List.set_cons_zero, List.set_cons_succ]
    refine wpAnyH_take (i := 6) (oi := { dst := some 25, op := Go.Op.move (Go.Operand.tmp 3), type := 9, pos := "laws.go:577", after := #[{ on := 5, ground := Go.Ground.guard }], guard := some (5, true) }) (v := .string sx) rfl (by kernel_rfl) (by kernel_rfl) (by kernel_rfl) (fun _ _ _ h => h) (Or.inl ⟨by rfl, by intro w hSw; (try dsimp only at hSw); go_simp⟩) (by assumption) ?_
    simp only [Act.put, List.setIfInBounds_toArray, List.set_cons_zero, List.set_cons_succ]
    refine wpAnyH_take (i := 8) (oi := { dst := some 27, op := Go.Op.fieldAddr 26 (Go.Operand.tmp 4) 0, type := 0, pos := "laws.go:577", after := #[{ on := 5, ground := Go.Ground.guard }], guard := some (5, true) }) (v := .pointer (some ⟨w3.heap.size, 0, none⟩)) rfl (by kernel_rfl) (by kernel_rfl) (by kernel_rfl) (fun _ _ _ h => h) (Or.inl ⟨by rfl, by intro w hSw; (try dsimp only at hSw); go_simp⟩) (by assumption) ?_
    simp only [Act.put, List.setIfInBounds_toArray, List.set_cons_zero, List.set_cons_succ]
    refine wpAnyH_take (i := 9) (oi := { dst := some 28, op := Go.Op.load 2 (Go.Operand.tmp 27), type := 2, pos := "laws.go:577", after := #[{ on := 8, ground := Go.Ground.data }, { on := 5, ground := Go.Ground.guard }], guard := some (5, true) }) (v := .int .i64 kc) rfl (by kernel_rfl) (by kernel_rfl) (by kernel_rfl) (fun _ _ _ h => h) (Or.inl ⟨by rfl, by intro w hSw; (try dsimp only at hSw); have ca := kept_cell hSw hgp p0; go_simp⟩) (by assumption) ?_
    simp only [Act.put, List.setIfInBounds_toArray, List.set_cons_zero, List.set_cons_succ]
    refine wpAnyH_ready (rs := [7]) (by kernel_rfl) (by simp) ?_
    refine AllReadyH.cons (o := { dst := some 26, op := Go.Op.call { callee := Go.Callee.value (Go.Operand.func 14), args := #[Go.Operand.tmp 25], argTypes := #[9] }, type := 2, pos := "laws.go:577", after := #[{ on := 6, ground := Go.Ground.data }, { on := 5, ground := Go.Ground.chain }, { on := 5, ground := Go.Ground.guard }], guard := some (5, true) }) rfl (fun K hK => ?_) AllReadyH.nil
    go_simp
    go_at_call 14
    refine (HIL.out _).mono ?_
    rintro z w8 ⟨rfl, hb8⟩
    have hbc : Below w2.heap.size w2 w8 := hbb.trans (hb8.mono hbb.size)
    clear hb8
    go_wp2_with fail
    refine hK.out _ _ hbc (fun hHeld => ?_)
    clear hK K
    try simp only [Act.put, List.setIfInBounds_toArray, List.set_cons_zero, List.set_cons_succ]
    refine wpAnyH_take (i := 10) (oi := { dst := some 29, op := Go.Op.binOp Go.BinOp.eql 2 (Go.Operand.tmp 26) (Go.Operand.tmp 28) 2, type := 4, pos := "laws.go:577", after := #[{ on := 7, ground := Go.Ground.data }, { on := 9, ground := Go.Ground.data }, { on := 5, ground := Go.Ground.guard }], guard := some (5, true) }) (v := .bool true) rfl (by kernel_rfl) (by kernel_rfl) (by kernel_rfl) (fun _ _ _ h => h) (Or.inl ⟨by rfl, by intro w hSw; (try dsimp only at hSw); go_simp⟩) (by assumption) ?_
    simp only [Act.put, List.setIfInBounds_toArray, List.set_cons_zero, List.set_cons_succ]
    refine wpAnyH_take (i := 11) (oi := { dst := some 30, op := Go.Op.pick (Go.Operand.tmp 24) (Go.Operand.tmp 29) (Go.Operand.const (Go.Value.bool false)), type := 4, pos := "laws.go:577", after := #[{ on := 5, ground := Go.Ground.data }, { on := 10, ground := Go.Ground.data }], guard := none }) (v := .bool true) rfl (by kernel_rfl) (by kernel_rfl) (by kernel_rfl) (fun _ _ _ h => h) (Or.inl ⟨by rfl, by intro w hSw; (try dsimp only at hSw); go_simp⟩) (by assumption) ?_
    simp only [Act.put, List.setIfInBounds_toArray, List.set_cons_zero, List.set_cons_succ]
    refine wpAnyH_take (i := 12) (oi := { dst := some 2, op := Go.Op.assign (Go.Operand.tmp 30), type := 4, pos := "laws.go:577", after := #[{ on := 11, ground := Go.Ground.data }, { on := 7, ground := Go.Ground.chain }, { on := 0, ground := Go.Ground.phase }, { on := 1, ground := Go.Ground.phase }, { on := 2, ground := Go.Ground.phase }, { on := 3, ground := Go.Ground.phase }, { on := 4, ground := Go.Ground.phase }, { on := 5, ground := Go.Ground.phase }, { on := 6, ground := Go.Ground.phase }, { on := 7, ground := Go.Ground.phase }, { on := 8, ground := Go.Ground.phase }, { on := 9, ground := Go.Ground.phase }, { on := 10, ground := Go.Ground.phase }, { on := 11, ground := Go.Ground.phase }], guard := none }) (v := .bool true) rfl (by kernel_rfl) (by kernel_rfl) (by kernel_rfl) (fun _ _ _ h => h) (Or.inl ⟨by rfl, by intro w hSw; (try dsimp only at hSw); go_simp⟩) (by assumption) ?_
    simp only [Act.put, List.setIfInBounds_toArray, List.set_cons_zero, List.set_cons_succ]
    refine wpAnyH_done (by kernel_rfl) ?_ _
    go_wp2
    go_ret
    exact ⟨rfl, (I2.out.below hbc).st⟩
theorem own : ownKnob Try.prog.godebug = none := by kernel_rfl
theorem laidOut : laidOutB Try.prog = true := by kernel_rfl
set_option maxRecDepth 100000 in
theorem lifted (os : Os) (started : os.Started) (H : Type) (enc : TypeId × Value → H) :
    ReturnsInHanded {} Try.checked os 10 .any (Rows.fnLinesSpec.pre6 enc Try.prog Try.f10 Rows.fnLinesRow.domain false) (Rows.fnLinesSpec.post enc Try.prog Try.f10 false true false false) := by
  refine returnsInHanded_of_change (C := Try.checked) own started (by kernel_rfl) Try.func10
    (ChangeSpec.witness6 (enc := enc) (C := Try.checked) false ⟨#[], #[.slice none 0 0], []⟩ 8 (by kernel_rfl) (by kernel_rfl) (by kernel_rfl) (by kernel_rfl)) ?_
  intro W base args ds gs before hval0 hW hcnd _
  have hval : ∀ (j : Nat) t v, Try.f10.params[j]? = some t → args[j]? = some v → Value.okWide Try.prog W .any base t v := hval0
  have hW' := hW
  obtain ⟨p, q, hA0, hV, rfl, hfz, hnd⟩ := hW
  have hA : DataW.TrodAll enc Try.prog W 0 (fun _ => true) true Try.f10.params.toList args.toList ds p := hA0
  rw [Try.params10] at hA hval
  obtain ⟨v0, vs0, d0, ds0, p0, q0, hargs, rfl, rfl, h0, r0⟩ := trodAll_cons hA
  obtain ⟨rfl, rfl, rfl⟩ := trodAll_nil r0
  obtain rfl : args = #[v0] := by cases args; simp_all
  obtain ⟨rfl, rfl⟩ := trodVars_none hV
  obtain ⟨a0, len0, cap0, rfl⟩ := okWide_slice Try.underlying24 (hval 0 24 v0 rfl rfl)
  have k0 := h0
  have lt0 : ∀ x ∈ p0, x.block < W.heap.size := by obtain ⟨m, hm⟩ := k0; exact DataW.trod_lt m _ _ _ hm
  obtain ⟨ga0, gc0⟩ : Drw.CodeAt W.heap.size W a0 len0 ∧ len0 ≤ maxLen := by
    obtain ⟨fuel, hf⟩ := h0
    exact Drw.open_code (by simpa [Value.cells] using hf)
  clear hA0 hval0
  refine (walk a0 len0 cap0 W gc0 ga0).mono fun e W' ⟨he, bel⟩ => ?_
  subst he
  exact ⟨_, rfl, _, _, _, [], _, [], hW', trodAll_mk1 (shut_bool Try.underlying4 _), (trodAll_cons_mk (Below.trod laidOut (by kernel_rfl) (of_decide_eq_true (by kernel_rfl)) k0 bel lt0) trodAll_mk0), rfl, bel.frame _, fun h => by cases h⟩
theorem over : Rows.fnLinesRow.holds Try.pinned (OpenSpec.ofChange Rows.fnLinesSpec) :=
  OpenClaim.holds_of_wide 10 Try.f10 rfl rfl rfl rfl rfl rfl rfl ⟨rfl, rfl, rfl, rfl, rfl⟩ rfl rfl rfl rfl rfl (by kernel_rfl) Try.func10 (by kernel_rfl)
    (of_decide_eq_true (by kernel_rfl)) (by unfold Func.isWrapper; first | (rw [if_pos (by decide +kernel)]; kernel_rfl) | (rw [if_neg (by decide +kernel)]; exact ⟨rfl, rfl⟩))
    (fun os started H enc _ => lifted os started H enc)
end FlL
theorem fnLines_holds : Rows.FnLinesSaid := FlL.over
#print axioms fnLines_holds
end Go.Proofs.Ytiliahibnhfhoaa
