/- EngineFault of the specification. No condition. -/
import Derived.Test.YtccklgopcjilcaaGreatDoorJWF33
import Derived.Test.YtccklgopcjilcaaGreatDoorJWF35
import Derived.Test.YtccklgopcjilcaaGreatDoorJWF26
import Derived.Deep.RegionHeld3
namespace Go.Proofs.YtccklgopcjilcaaGreatDoor
open Go.RowKit Go.Deep
set_option linter.unusedVariables false
namespace Eg
open St (StepD)
open Ei (InstD)
open En (EngD)
open Kc (chartC)
open Pf (pFault)
open Ex (inR hid specIn)
/-- An engine's cells at a pointer. -/
structure EAt (w : World) (P : Nat) (vp vi : Value) (n : Int) : Prop where
  lt : P < w.heap.size
  c0 : w.cell? ⟨P, 0, none⟩ = some vp
  c1 : w.cell? ⟨P, 1, none⟩ = some vi
  c2 : w.cell? ⟨P, 2, none⟩ = some (.int .i64 n)
theorem EAt.below {w w' : World} {P : Nat} {vp vi : Value} {n : Int} (h : EAt w P vp vi n) (hb : Below w.heap.size w w') : EAt w' P vp vi n := ⟨Nat.lt_of_lt_of_le h.lt hb.size, St.old_cell hb h.lt h.c0, St.old_cell hb h.lt h.c1, St.old_cell hb h.lt h.c2⟩
set_option maxRecDepth 100000 in
set_option maxHeartbeats 8000000 in
theorem specProcs (B : Nat) (ps : List (List StepD)) (v : Value) (w : World) (hs : Ep.Small 1048576 ps) (ha : Ep.At w B v ps) :
    Calls Tryz.prog 96 #[v] w fun z w' => z = .returned (.int .i64 (procsC ps)) ∧ Below w.heap.size w w' := by
  obtain ⟨a1, k1, rfl⟩ := ha.slice
  have hl1 := hs.1
  by_cases q1 : (ps.length : Int) < 1
  · have HE := hid (p_many (ps := ps) (by omega))
    clear hs ha
    go_enter Tryz.func96, Tryz.ntmps96
    go_wp2
    go_ret
    exact ⟨by rw [HE.out]; rfl, Below.refl _ _⟩
  by_cases q2 : 3 < (ps.length : Int)
  · have HE := hid (p_many (ps := ps) (by omega))
    clear hs ha
    go_enter Tryz.func96, Tryz.ntmps96
    go_wp2
    go_ret
    exact ⟨by rw [HE.out]; rfl, Below.refl _ _⟩
  have HP0 := hid (p_few (ps := ps) (by omega))
  have HA := hid ha
  have HS0 := hid hs
  clear ha hs
  go_enter Tryz.func96, Tryz.ntmps96
  go_wp2_with fail
  clear q1 q2
  go_loopw [3, 4] (fun x _ wr => ∃ k : Nat, x = .int .i64 k ∧ k ≤ ps.length ∧ Hid (procsC ps = firstNZ pFault (ps.drop k)) ∧ Hid (Below w.heap.size w wr)) (fun x _ _ => ps.length - (intOf x).toNat)
  case atStart => exact ⟨0, rfl, Nat.zero_le _, HP0, hid (Below.refl _ _)⟩
  case round =>
    clear HP0
    obtain ⟨k, rfl, hk, HP, HBR⟩ := hrel
    by_cases hlt : k < ps.length
    · obtain ⟨g, o, x1, rfl, hg, p0, hst⟩ := (HA.out.below HBR.out).at hlt
      have t1 : (k : Int) < (ps.length : Int) := by omega
      obtain ⟨b1, l1, rfl⟩ := hst.slice
      have HC := hid (Pf.specFault B ps[k] _ wr (HS0.out.at hlt) hst)
      clear hst
      go_wp2_with fail
      refine HC.out.mono ?_
      rintro z w3 ⟨rfl, hb3⟩
      have HB3 := hid (HBR.out.trans (hb3.mono HBR.out.size))
      clear hb3 HC
      by_cases hz : pFault ps[k] = 0
      · have HN : Hid (procsC ps = firstNZ pFault (ps.drop (k + 1))) := hid (by rw [HP.out, nz_next hlt hz])
        rw [hz]
        have b0 : ((0 : Int) != 0) = false := rfl
        clear hz HP
        go_wp2
        exact ⟨⟨k + 1, by simp, by omega, HN, HB3⟩, by simp [intOf]; omega⟩
      · have HN : Hid (procsC ps = pFault ps[k]) := hid (by rw [HP.out, nz_bad hlt hz])
        have b0 : (pFault ps[k] != 0) = true := bne_iff_ne.2 hz
        generalize pFault ps[k] = pc at *
        clear hz HP
        go_wp2
        go_ret
        exact ⟨by rw [HN.out]; rfl, HB3.out⟩
    · have HPZ : Hid (procsC ps = 0) := hid (by rw [HP.out, nz_end (by omega)])
      clear HP
      go_wp2
      go_ret
      exact ⟨by rw [HPZ.out]; rfl, HBR.out⟩
set_option maxRecDepth 100000 in
set_option maxHeartbeats 16000000 in
theorem specFaultAtE (B P : Nat) (e : EngD) (vp vi : Value) (w : World) (hs : En.Small 1048576 e) (ha : En.At w B vp vi e) (hP : EAt w P vp vi e.now) :
    Calls Tryz.prog 117 #[.pointer (some ⟨P, 0, none⟩)] w fun z w' => z = .returned (.int .i64 (engC e)) ∧ Below w.heap.size w w' := by
  obtain ⟨a1, k1, rfl⟩ := ha.procs.slice
  obtain ⟨a2, k2, rfl⟩ := ha.insts.slice
  have hl1 := hs.procs.1
  have hl2 := hs.insts.1
  have m0 := hP.c0
  have m1 := hP.c1
  have m2 := hP.c2
  have lP := hP.lt
  replace m0 : w.cell? ⟨P, 0, none⟩ = some (.slice a1 e.procs.length k1) := m0
  replace m1 : w.cell? ⟨P, 1, none⟩ = some (.slice a2 e.insts.length k2) := m1
  replace m2 : w.cell? ⟨P, 2, none⟩ = some (.int .i64 e.now) := m2
  by_cases q3 : 6 < (e.insts.length : Int)
  · have HE := hid (e_many (e := e) (by omega))
    clear hs ha hP
    go_enter Tryz.func117, Tryz.ntmps117
    go_wp2
    go_ret
    exact ⟨by rw [HE.out]; rfl, Below.refl _ _⟩
  have HI0 := hid (show ¬ 6 < e.insts.length by omega)
  have HA := hid ha
  have HS0 := hid hs
  have HK := hid hP
  have HC := hid (specProcs B e.procs _ w hs.procs ha.procs)
  clear ha hs hP
  go_enter Tryz.func117, Tryz.ntmps117
  go_wp2_with fail
  clear q3
  refine HC.out.mono ?_
  rintro z w1 ⟨rfl, hb1⟩
  have HB1 := hid hb1
  have HA1 := hid (HA.out.below hb1)
  have HK1 := hid (HK.out.below hb1)
  clear hb1 m0 m1 m2 lP HC HA HK
  by_cases hz : procsC e.procs = 0
  case neg =>
    have HN : Hid (engC e = procsC e.procs) := hid (e_proc HI0.out hz)
    have b0 : (procsC e.procs != 0) = true := bne_iff_ne.2 hz
    generalize procsC e.procs = pc at *
    clear hz
    go_wp2
    go_ret
    exact ⟨by rw [HN.out]; rfl, HB1.out⟩
  rw [hz]
  have b0 : ((0 : Int) != 0) = false := rfl
  have m1 := HK1.out.c1
  have m2 := HK1.out.c2
  have lP := HK1.out.lt
  replace m1 : w1.cell? ⟨P, 1, none⟩ = some (.slice a2 e.insts.length k2) := m1
  replace m2 : w1.cell? ⟨P, 2, none⟩ = some (.int .i64 e.now) := m2
  have HT := hid (fun w' => Ks.specTime e.now w')
  go_wp2_with fail
  refine (HT.out _).mono ?_
  rintro z w2 ⟨rfl, hw2⟩
  replace hw2 := hw2.symm
  subst hw2
  cases hx : inR e.now 0 1000000
  · have HE := hid (e_now HI0.out hz hx)
    clear hx hz
    go_wp2
    go_ret
    exact ⟨by rw [HE.out]; rfl, HB1.out⟩
  have HE := hid (e_inst HI0.out hz hx)
  clear hx hz HI0 HT
  go_wp2_with fail
  clear m1 m2 lP
  go_loopw [4, 5, 6] (fun x _ _ wr => ∃ k : Nat, x = .int .i64 k ∧ k ≤ e.insts.length ∧ Hid (engC e = firstNZ (instC e) (e.insts.drop k)) ∧ Hid (Below w1.heap.size w1 wr)) (fun x _ _ _ => e.insts.length - (intOf x).toNat)
  case atStart => exact ⟨0, rfl, Nat.zero_le _, HE, hid (Below.refl _ _)⟩
  case round =>
    clear HE
    obtain ⟨k, rfl, hk, HE, HBR⟩ := hrel
    have hk1 := HK1.out.below HBR.out
    have m0 := hk1.c0
    have m1 := hk1.c1
    have m2 := hk1.c2
    have lP := hk1.lt
    replace m0 : wr.cell? ⟨P, 0, none⟩ = some (.slice a1 e.procs.length k1) := m0
    replace m1 : wr.cell? ⟨P, 1, none⟩ = some (.slice a2 e.insts.length k2) := m1
    replace m2 : wr.cell? ⟨P, 2, none⟩ = some (.int .i64 e.now) := m2
    clear hk1
    have HBW := hid (HB1.out.trans (HBR.out.mono HB1.out.size))
    by_cases hlt : k < e.insts.length
    · have t1 : (k : Int) < (e.insts.length : Int) := by omega
      obtain ⟨g, o, x1, x2, x3, rfl, hg, p0, p1, p2, p3, p4, p5, hc⟩ := (HA1.out.below HBR.out).insts.at hlt
      obtain ⟨b1, l1, rfl⟩ := hc.vars.slice
      obtain ⟨b2, l2, rfl⟩ := hc.marks.slice
      obtain ⟨b3, l3, rfl⟩ := hc.dues.slice
      cases hx : hasP e e.insts[k].proc
      · have HN : Hid (engC e = 3) := hid (by rw [HE.out, nz_bad hlt (by rw [i_range hx]; omega), i_range hx])
        have b1 : inR e.insts[k].proc 0 ((e.procs.length : Int) - 1) = false := hx
        clear HE hx hc
        go_wp2
        go_quiet ((go_at_call 118; exact Calls.quiet_of_same (specIn _ _ _ _)))
        go_wp2
        go_ret
        exact ⟨by rw [HN.out]; rfl, Nd.below_drewN HBW.out nq⟩
      obtain ⟨hp0, hp1, hp2⟩ := hasP_in hx
      have b1 : inR e.insts[k].proc 0 ((e.procs.length : Int) - 1) = true := hx
      have HCP : Hid (∀ wy, Below wr.heap.size wr wy → Ks.CPo wy g (o + k * 6 + 1) _ _ _ e.insts[k].chart) := hid (fun wy hb => ⟨St.old_cell hb hg p1, St.old_cell hb hg p2, St.old_cell hb hg p3, St.old_cell hb hg p4, St.old_cell hb hg p5, (hc.mono (Nat.zero_le _)).below hb⟩)
      clear hc
      go_wp2
      go_quiet ((go_at_call 118; exact Calls.quiet_of_same (specIn _ _ _ _)))
      go_wp2
      obtain ⟨g2, o2, y1, ea, hg2, d0, hst⟩ := (HA1.out.below HBR.out).procs.at hp1
      cases ea
      obtain ⟨s1, s2, rfl⟩ := hst.slice
      have hsm := HS0.out.procs.at hp1
      have hbn := Nd.below_drewN (Below.refl wr.heap.size wr) nq
      generalize wr.drewN nq = wn at *
      have HC := hid (fun wy (hb : Below wr.heap.size wr wy) => Ks.specChartFaultO B _ _ g (o + k * 6 + 1) e.insts[k].chart _ _ _ wy hsm (HS0.out.insts.at hlt) (hst.below hb) (HCP.out wy hb))
      have HI : Hid (instC e e.insts[k] = if chartC e.procs[e.insts[k].proc.toNat] e.insts[k].chart ≠ 0 then chartC e.procs[e.insts[k].proc.toNat] e.insts[k].chart else if e.insts[k].chart.now = e.now then 0 else 9) := hid (by unfold instC; rw [if_pos hx, stepsD_eq hp1])
      clear hst hsm hx b1 HCP
      generalize hcc : chartC e.procs[e.insts[k].proc.toNat] e.insts[k].chart = cc at *
      generalize e.procs[e.insts[k].proc.toNat] = ss at *
      generalize hpp : e.insts[k].proc = p at *
      clear hpp hcc
      refine wp_region_held_drew (S := fun wx => Below wr.heap.size wr wx) (by kernel_rfl) hbn.drew (fun hHeld => ?_)
      refine wpAnyH_take (i := 0) (oi := { dst := some 54, op := Go.Op.move (Go.Operand.tmp 0), type := 108, pos := "l11_engine.go:34", after := #[], guard := none }) (v := .pointer (some ⟨P, 0, none⟩)) rfl (by kernel_rfl) (by kernel_rfl) (by kernel_rfl) (fun _ _ _ h => h) (Or.inl ⟨by rfl, by intro w hSw; (try dsimp only at hSw); go_simp⟩) (by assumption) ?_
      simp only [Act.put, List.setIfInBounds_toArray, List.set_cons_zero, List.set_cons_succ]
      refine wpAnyH_take (i := 1) (oi := { dst := some 55, op := Go.Op.nilCheck (Go.Operand.tmp 54), type := 0, pos := "l11_engine.go:34", after := #[{ on := 0, ground := Go.Ground.data }], guard := none }) (v := .pointer (some ⟨P, 0, none⟩)) rfl (by kernel_rfl) (by kernel_rfl) (by kernel_rfl) (fun _ _ _ h => h) (Or.inl ⟨by rfl, by intro w hSw; (try dsimp only at hSw); go_simp⟩) (by assumption) ?_
      simp only [Act.put, List.setIfInBounds_toArray, List.set_cons_zero, List.set_cons_succ]
      refine wpAnyH_take (i := 2) (oi := { dst := some 56, op := Go.Op.fieldAddr 27 (Go.Operand.tmp 55) 0, type := 0, pos := "l11_engine.go:34", after := #[{ on := 1, ground := Go.Ground.data }], guard := none }) (v := .pointer (some ⟨P, 0, none⟩)) rfl (by kernel_rfl) (by kernel_rfl) (by kernel_rfl) (fun _ _ _ h => h) (Or.inl ⟨by rfl, by intro w hSw; (try dsimp only at hSw); go_simp⟩) (by assumption) ?_
      simp only [Act.put, List.setIfInBounds_toArray, List.set_cons_zero, List.set_cons_succ]
      refine wpAnyH_take (i := 3) (oi := { dst := some 57, op := Go.Op.load 24 (Go.Operand.tmp 56), type := 24, pos := "l11_engine.go:34", after := #[{ on := 2, ground := Go.Ground.data }], guard := none }) (v := .slice (some ⟨g2, o2, none⟩) e.procs.length k1) rfl (by kernel_rfl) (by kernel_rfl) (by kernel_rfl) (fun _ _ _ h => h) (Or.inl ⟨by rfl, by intro w hSw; (try dsimp only at hSw); have m0 := St.old_cell hSw lP m0; go_simp⟩) (by assumption) ?_
      simp only [Act.put, List.setIfInBounds_toArray, List.set_cons_zero, List.set_cons_succ]
      refine wpAnyH_take (i := 4) (oi := { dst := some 58, op := Go.Op.move (Go.Operand.tmp 5), type := 219, pos := "l11_engine.go:34", after := #[], guard := none }) (v := .pointer (some ⟨g, o + k * 6, none⟩)) rfl (by kernel_rfl) (by kernel_rfl) (by kernel_rfl) (fun _ _ _ h => h) (Or.inl ⟨by rfl, by intro w hSw; (try dsimp only at hSw); go_simp⟩) (by assumption) ?_
      simp only [Act.put, List.setIfInBounds_toArray, List.set_cons_zero, List.set_cons_succ]
      refine wpAnyH_take (i := 5) (oi := { dst := some 59, op := Go.Op.nilCheck (Go.Operand.tmp 58), type := 0, pos := "l11_engine.go:34", after := #[{ on := 4, ground := Go.Ground.data }], guard := none }) (v := .pointer (some ⟨g, o + k * 6, none⟩)) rfl (by kernel_rfl) (by kernel_rfl) (by kernel_rfl) (fun _ _ _ h => h) (Or.inl ⟨by rfl, by intro w hSw; (try dsimp only at hSw); go_simp⟩) (by assumption) ?_
      simp only [Act.put, List.setIfInBounds_toArray, List.set_cons_zero, List.set_cons_succ]
      refine wpAnyH_take (i := 6) (oi := { dst := some 60, op := Go.Op.fieldAddr 114 (Go.Operand.tmp 59) 0, type := 0, pos := "l11_engine.go:34", after := #[{ on := 5, ground := Go.Ground.data }], guard := none }) (v := .pointer (some ⟨g, o + k * 6, none⟩)) rfl (by kernel_rfl) (by kernel_rfl) (by kernel_rfl) (fun _ _ _ h => h) (Or.inl ⟨by rfl, by intro w hSw; (try dsimp only at hSw); go_simp⟩) (by assumption) ?_
      simp only [Act.put, List.setIfInBounds_toArray, List.set_cons_zero, List.set_cons_succ]
      refine wpAnyH_take (i := 7) (oi := { dst := some 61, op := Go.Op.load 2 (Go.Operand.tmp 60), type := 2, pos := "l11_engine.go:34", after := #[{ on := 6, ground := Go.Ground.data }], guard := none }) (v := .int .i64 p) rfl (by kernel_rfl) (by kernel_rfl) (by kernel_rfl) (fun _ _ _ h => h) (Or.inl ⟨by rfl, by intro w hSw; (try dsimp only at hSw); have p0 := St.old_cell hSw hg p0; go_simp⟩) (by assumption) ?_
      simp only [Act.put, List.setIfInBounds_toArray, List.set_cons_zero, List.set_cons_succ]
      refine wpAnyH_take (i := 8) (oi := { dst := some 62, op := Go.Op.indexAddr 24 (Go.Operand.tmp 57) (Go.Operand.tmp 61), type := 0, pos := "l11_engine.go:34", after := #[{ on := 3, ground := Go.Ground.data }, { on := 7, ground := Go.Ground.data }], guard := none }) (v := .pointer (some ⟨g2, o2 + p.toNat, none⟩)) rfl (by kernel_rfl) (by kernel_rfl) (by kernel_rfl) (fun _ _ _ h => h) (Or.inl ⟨by rfl, by intro w hSw; (try dsimp only at hSw); go_simp⟩) (by assumption) ?_
      simp only [Act.put, List.setIfInBounds_toArray, List.set_cons_zero, List.set_cons_succ]
      refine wpAnyH_take (i := 9) (oi := { dst := some 63, op := Go.Op.fieldAddr 89 (Go.Operand.tmp 62) 0, type := 0, pos := "l11_engine.go:34", after := #[{ on := 8, ground := Go.Ground.data }], guard := none }) (v := .pointer (some ⟨g2, o2 + p.toNat, none⟩)) rfl (by kernel_rfl) (by kernel_rfl) (by kernel_rfl) (fun _ _ _ h => h) (Or.inl ⟨by rfl, by intro w hSw; (try dsimp only at hSw); go_simp⟩) (by assumption) ?_
      simp only [Act.put, List.setIfInBounds_toArray, List.set_cons_zero, List.set_cons_succ]
      refine wpAnyH_take (i := 10) (oi := { dst := some 64, op := Go.Op.load 87 (Go.Operand.tmp 63), type := 87, pos := "l11_engine.go:34", after := #[{ on := 9, ground := Go.Ground.data }], guard := none }) (v := .slice s1 ss.length s2) rfl (by kernel_rfl) (by kernel_rfl) (by kernel_rfl) (fun _ _ _ h => h) (Or.inl ⟨by rfl, by intro w hSw; (try dsimp only at hSw); have d0 := St.old_cell hSw hg2 d0; go_simp⟩) (by assumption) ?_
      simp only [Act.put, List.setIfInBounds_toArray, List.set_cons_zero, List.set_cons_succ]
      refine wpAnyH_take (i := 11) (oi := { dst := some 65, op := Go.Op.move (Go.Operand.tmp 5), type := 219, pos := "l11_engine.go:34", after := #[], guard := none }) (v := .pointer (some ⟨g, o + k * 6, none⟩)) rfl (by kernel_rfl) (by kernel_rfl) (by kernel_rfl) (fun _ _ _ h => h) (Or.inl ⟨by rfl, by intro w hSw; (try dsimp only at hSw); go_simp⟩) (by assumption) ?_
      simp only [Act.put, List.setIfInBounds_toArray, List.set_cons_zero, List.set_cons_succ]
      refine wpAnyH_take (i := 12) (oi := { dst := some 66, op := Go.Op.nilCheck (Go.Operand.tmp 65), type := 0, pos := "l11_engine.go:34", after := #[{ on := 11, ground := Go.Ground.data }], guard := none }) (v := .pointer (some ⟨g, o + k * 6, none⟩)) rfl (by kernel_rfl) (by kernel_rfl) (by kernel_rfl) (fun _ _ _ h => h) (Or.inl ⟨by rfl, by intro w hSw; (try dsimp only at hSw); go_simp⟩) (by assumption) ?_
      simp only [Act.put, List.setIfInBounds_toArray, List.set_cons_zero, List.set_cons_succ]
      refine wpAnyH_take (i := 13) (oi := { dst := some 67, op := Go.Op.fieldAddr 114 (Go.Operand.tmp 66) 1, type := 0, pos := "l11_engine.go:34", after := #[{ on := 12, ground := Go.Ground.data }], guard := none }) (v := .pointer (some ⟨g, o + k * 6 + 1, none⟩)) rfl (by kernel_rfl) (by kernel_rfl) (by kernel_rfl) (fun _ _ _ h => h) (Or.inl ⟨by rfl, by intro w hSw; (try dsimp only at hSw); go_simp⟩) (by assumption) ?_
      simp only [Act.put, List.setIfInBounds_toArray, List.set_cons_zero, List.set_cons_succ]
      refine wpAnyH_ready (rs := [14]) (by kernel_rfl) (by simp) ?_
      refine AllReadyH.cons (o := { dst := some 68, op := Go.Op.call { callee := Go.Callee.value (Go.Operand.func 156), args := #[Go.Operand.tmp 64, Go.Operand.tmp 67], argTypes := #[87, 117] }, type := 2, pos := "l11_engine.go:34", after := #[{ on := 10, ground := Go.Ground.data }, { on := 13, ground := Go.Ground.data }], guard := none }) rfl (fun K hK => ?_) AllReadyH.nil
      go_simp
      go_at_call 156
      refine (HC.out _ hbn.drew).mono ?_
      rintro z w3 ⟨rfl, hb3⟩
      have hbb : Below wr.heap.size wr w3 := hbn.drew.trans (hb3.mono hbn.drew.size)
      clear hb3
      go_wp2_with fail
      refine hK.out _ _ hbb (fun hHeld => ?_)
      clear hK K
      try simp only [Act.put, List.setIfInBounds_toArray, List.set_cons_zero, List.set_cons_succ]
      refine wpAnyH_take (i := 15) (oi := { dst := some 6, op := Go.Op.assign (Go.Operand.tmp 68), type := 2, pos := "l11_engine.go:34", after := #[{ on := 14, ground := Go.Ground.data }, { on := 14, ground := Go.Ground.chain }, { on := 0, ground := Go.Ground.phase }, { on := 1, ground := Go.Ground.phase }, { on := 2, ground := Go.Ground.phase }, { on := 3, ground := Go.Ground.phase }, { on := 4, ground := Go.Ground.phase }, { on := 5, ground := Go.Ground.phase }, { on := 6, ground := Go.Ground.phase }, { on := 7, ground := Go.Ground.phase }, { on := 8, ground := Go.Ground.phase }, { on := 9, ground := Go.Ground.phase }, { on := 10, ground := Go.Ground.phase }, { on := 11, ground := Go.Ground.phase }, { on := 12, ground := Go.Ground.phase }, { on := 13, ground := Go.Ground.phase }, { on := 14, ground := Go.Ground.phase }], guard := none }) (v := .int .i64 cc) rfl (by kernel_rfl) (by kernel_rfl) (by kernel_rfl) (fun _ _ _ h => h) (Or.inl ⟨by rfl, by intro w hSw; (try dsimp only at hSw); go_simp⟩) (by assumption) ?_
      simp only [Act.put, List.setIfInBounds_toArray, List.set_cons_zero, List.set_cons_succ]
      refine wpAnyH_done (by kernel_rfl) ?_ _
      have HB3 := hid (HBR.out.trans (hbb.mono HBR.out.size))
      have HBZ := hid (HB1.out.trans (HB3.out.mono HB1.out.size))
      have q2 := St.old_cell hbb hg p2
      have q0 := St.old_cell hbb lP m2
      have lg := Nat.lt_of_lt_of_le hg hbb.size
      have lp := Nat.lt_of_lt_of_le lP hbb.size
      clear hHeld hbb hbn HC m0 m1 m2 p0 p1 p2 p3 p4 p5 d0 hg hg2 HBW HBR lP hp0 hp1 hp2
      by_cases hz : cc = 0
      · subst hz
        have HI2 := HI.out
        rw [if_neg (by simp)] at HI2
        have b0 : ((0 : Int) != 0) = false := rfl
        by_cases hn : e.insts[k].chart.now = e.now
        · have HN : Hid (engC e = firstNZ (instC e) (e.insts.drop (k + 1))) := hid (by rw [HE.out, nz_next hlt (by rw [HI2, if_pos hn])])
          have b1 : (e.insts[k].chart.now != e.now) = false := by rw [hn]; simp
          clear hn HI HI2 HE
          go_wp2
          go_quiet (fail)
          go_wp2
          exact ⟨⟨k + 1, by simp, by omega, HN, hid (Nd.below_drewN HB3.out nq)⟩, by simp [intOf]; omega⟩
        · have HN : Hid (engC e = 9) := hid (by rw [HE.out, nz_bad hlt (by rw [HI2, if_neg hn]; omega), HI2, if_neg hn])
          have b1 : (e.insts[k].chart.now != e.now) = true := bne_iff_ne.2 hn
          clear hn HI HI2 HE
          go_wp2
          go_quiet (fail)
          go_wp2
          go_ret
          exact ⟨by rw [HN.out]; rfl, Nd.below_drewN HBZ.out nq⟩
      · have HN : Hid (engC e = cc) := hid (by rw [HE.out, nz_bad hlt (by rw [HI.out, if_pos hz]; exact hz), HI.out, if_pos hz])
        have b0 : (cc != 0) = true := bne_iff_ne.2 hz
        clear hz HI HE
        go_wp2
        go_ret
        exact ⟨by rw [HN.out]; rfl, HBZ.out⟩
    · have HZ : Hid (engC e = 0) := hid (by rw [HE.out, nz_end (by omega)])
      clear HE
      go_wp2
      go_ret
      exact ⟨by rw [HZ.out]; rfl, HBW.out⟩
theorem specFaultAt (B P : Nat) (e : EngD) (vp vi : Value) (w : World) (hs : En.Small 1048576 e) (ha : En.At w B vp vi e) (hP : w.heap[P]? = some (.cells #[vp, vi, .int .i64 e.now] 27)) :
    Calls Tryz.prog 117 #[.pointer (some ⟨P, 0, none⟩)] w fun z w' => z = .returned (.int .i64 (engC e)) ∧ Below w.heap.size w w' :=
  specFaultAtE B P e vp vi w hs ha ⟨Ch.blk_lt hP, Ch.blk_cell hP 0, Ch.blk_cell hP 1, Ch.blk_cell hP 2⟩
end Eg
end Go.Proofs.YtccklgopcjilcaaGreatDoor
