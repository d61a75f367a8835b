/- The claims of a desk as a table of the program's: claimsOn, and DeskFault. Condition: the table of rules lies as its initialiser lays it. -/
import Derived.Test.YtccklgopcjilcaaGreatDoorJCT28
import Derived.Test.YtccklgopcjilcaaGreatDoorJCT29
import Derived.Deep.RegionHeld3
import Derived.BigQuiet
namespace Go.Proofs.YtccklgopcjilcaaGreatDoor
open Go.RowKit Go.Deep
set_option linter.unusedVariables false
set_option linter.unusedSimpArgs false
namespace Dk
open En (EngD)
open Cl (ClD)
open Eg (engC firstNZ)
open Pf (Rul)
open Ex (inR hid)
open Gr (cmpE)
open St (old_cell)
open Ch (blk_cell blk_lt new_blk new_at)
theorem below_block {W w w' : World} {D b : Nat} (h : Below D W w) (hb : D ≤ b) (ho : ∀ i, i ≠ b → w'.heap[i]? = w.heap[i]?) (hs : w'.heap.size = w.heap.size) (h1 : w'.os = w.os) (h2 : w'.tape = w.tape) (h3 : w'.output = w.output) : Below D W w' :=
  ⟨h1.trans h.os, h2.trans h.tape, h3.trans h.output, by rw [hs]; exact h.size, fun i hi => (ho i (by omega)).trans (h.block i hi)⟩
theorem new_map (w : World) : (w.alloc (.map #[] 0)).heap[w.heap.size]? = some (.map #[] 0) := heap_alloc_new w _
theorem step_put {P : Program} {w w' : World} {ops : Array Oper} {o : Oper} {a : Act} {K : Act → World → Prop} {Q : Exit → Act → World → Prop} {E : Prop} (hgd : o.guard = none) (m x v : Operand) (t : TypeId) (ho : o.op = .mapUpdate t m x v) {mv xv vv : Value} (hm : a.eval m = mv) (hx : a.eval x = xv) (hv : a.eval v = vv)
    (hrun : (Instr.mapUpdate t mv xv vv).run P w = .ok () w') (h : K (a.put o.dst undef) w') : if Region.wanted o (yielded ops a.tmps) = true then Oper.wp P o a w K Q else E := by
  have hw : Region.wanted o (yielded ops a.tmps) = true := by simp [Region.wanted, hgd]
  rw [if_pos hw]
  unfold Oper.wp
  simp [execOp, ho, hm, hx, hv, hrun, Result.andThen]
  exact h
theorem implComparePlacesB (x y : ClD) (w : World) : Calls Tryz.prog 137 #[.agg #[.int .i64 x.inst, .int .i64 x.step, .int .i64 x.user], .agg #[.int .i64 y.inst, .int .i64 y.step, .int .i64 y.user]] w fun e w' => e = .returned (.int .i64 (cmpE (x.inst, x.step) (y.inst, y.step))) ∧ Below w.heap.size w w' :=
  (Gr.implComparePlaces x y w).mono (fun e w' ⟨h1, h2⟩ => ⟨h1, by rw [h2]; exact ((((Below.refl _ w).alloc (Nat.le_refl _) _).alloc (by simp) _).alloc (by simp; omega) _).drew⟩)
/-- What claimsOn answers: a fault, or the table of the claims. -/
def COPost (d : DeskD) (w : World) (z : Ending) (w' : World) : Prop :=
  ((deskC d ≠ 0 ∧ z = .returned (.tuple #[.map none, .int .i64 (deskC d)])) ∨ (deskC d = 0 ∧ ∃ M, z = .returned (.tuple #[.map (some M), .int .i64 0]) ∧ Mp.At w' M (ents d.claims) ∧ w.heap.size ≤ M)) ∧ Below w.heap.size w w'
theorem COPost.bad {d : DeskD} {w w' : World} {c : Int} (h : deskC d = c) (hc : c ≠ 0) (hb : Below w.heap.size w w') : COPost d w (.returned (.tuple #[.map none, .int .i64 c])) w' := ⟨.inl ⟨by rw [h]; exact hc, by rw [h]⟩, hb⟩
theorem COPost.good {d : DeskD} {w w' : World} {M : Nat} (h : deskC d = 0) (hm : Mp.At w' M (ents d.claims)) (hM : w.heap.size ≤ M) (hb : Below w.heap.size w w') : COPost d w (.returned (.tuple #[.map (some M), .int .i64 0])) w' := ⟨.inr ⟨h, M, rfl, hm, hM⟩, hb⟩
theorem lt_succ_cases {P : Nat → Prop} {k : Nat} (h : ∀ j, j < k → P j) (h2 : P k) : ∀ j, j < k + 1 → P j := fun j hj => by
  by_cases e : j = k
  · rw [e]; exact h2
  · exact h j (by omega)
set_option maxRecDepth 100000 in
set_option maxHeartbeats 16000000 in
theorem implClaimsOn (d : DeskD) (vp vi vc : Value) (w : World) (hs : Small 1048576 d) (ha : At w 0 vp vi vc d) (hr : Rul w) :
    Calls Tryz.prog 108 #[.agg #[vp, vi, .int .i64 d.eng.now, vc]] w (COPost d w) := by
  obtain ⟨⟨a1, k1, rfl⟩, ⟨a2, k2, rfl⟩, a3, k3, rfl⟩ := ha.slices
  have hl3 := hs.claims
  obtain ⟨w0, e0⟩ : ∃ w0, w0 = w.alloc (.cells #[.slice a1 d.eng.procs.length k1, .slice a2 d.eng.insts.length k2, .int .i64 d.eng.now, .slice a3 d.claims.length k3] 30) := ⟨_, rfl⟩
  have hb0 : Below w.heap.size w w0 := by rw [e0]; exact (Below.refl _ w).alloc (Nat.le_refl _) _
  have hk0 : w0.heap[w.heap.size]? = some (.cells #[.slice a1 d.eng.procs.length k1, .slice a2 d.eng.insts.length k2, .int .i64 d.eng.now, .slice a3 d.claims.length k3] 30) := by rw [e0]; exact new_blk _ _
  have HA := hid ha
  have HE := hid (Eg.implEngineFault d.eng _ _ w0 hs.eng (ha.below hb0).eng (hr.below hb0 hr.lt))
  have HB0 := hid hb0
  have HS := hid hs
  clear ha hb0 hs hr
  go_enter Tryz.func108, Tryz.ntmps108
  go_wp2_with fail
  rw [← e0]
  clear e0
  refine HE.out.mono ?_
  rintro z w1 ⟨rfl, hb1⟩
  have HB1 := hid (HB0.out.trans (hb1.mono HB0.out.size))
  have HK1 : Hid (w1.heap[w.heap.size]? = some (.cells #[.slice a1 d.eng.procs.length k1, .slice a2 d.eng.insts.length k2, .int .i64 d.eng.now, .slice a3 d.claims.length k3] 30)) := hid ((hb1.block _ (blk_lt hk0)).trans hk0)
  clear hb1 hk0 HE HB0
  by_cases hz : engC d.eng = 0
  case neg =>
    have HN := hid (d_eng hz)
    have HZ := hid hz
    have b0 : (engC d.eng != 0) = true := bne_iff_ne.2 hz
    generalize engC d.eng = pc at *
    clear hz
    go_wp2
    go_ret2
    exact COPost.bad HN.out HZ.out HB1.out
  have HZ := hid hz
  rw [hz]
  have b0 : ((0 : Int) != 0) = false := rfl
  clear hz
  have m3 := blk_cell HK1.out 3
  replace m3 : w1.cell? ⟨w.heap.size, 3, none⟩ = some (.slice a3 d.claims.length k3) := m3
  have ml := blk_lt HK1.out
  by_cases q : 60 < (d.claims.length : Int)
  · have HN := hid (d_many HZ.out (show 60 < d.claims.length by omega))
    go_wp2
    go_ret2
    exact COPost.bad HN.out (by decide) HB1.out
  have HD := hid (d_rest HZ.out (show ¬ 60 < d.claims.length by omega))
  have hmm : ∀ w, (Instr.makeMap 149 none).run Tryz.prog w = .ok (.map (some w.heap.size)) (w.alloc (.map #[] 0)) := fun w => rfl
  obtain ⟨M, hM⟩ : ∃ M, M = w1.heap.size := ⟨_, rfl⟩
  have HM0 : Hid (Mp.At (w1.alloc (.map #[] 0)) M (ents (d.claims.take 0))) := hid (by rw [hM]; exact Mp.At.nil (new_map w1))
  have HKD0 : Hid ((w1.alloc (.map #[] 0)).heap[w.heap.size]? = some (.cells #[.slice a1 d.eng.procs.length k1, .slice a2 d.eng.insts.length k2, .int .i64 d.eng.now, .slice a3 d.claims.length k3] 30)) := hid (by rw [Below.heap_alloc _ _ _ ml]; exact HK1.out)
  have HBa : Hid (Below w.heap.size w (w1.alloc (.map #[] 0))) := hid (HB1.out.alloc HB1.out.size _)
  have HMw : Hid (w.heap.size < M) := hid (by rw [hM]; exact ml)
  have HRS0 : Hid (claimsC d.eng d.claims = firstNZ (claimC d.eng d.claims) ((List.range d.claims.length).drop 0)) := hid rfl
  have m3b : (w1.alloc (.map #[] 0)).cell? ⟨w.heap.size, 3, none⟩ = some (.slice a3 d.claims.length k3) := by have := blk_cell HKD0.out 3; exact this
  have ml2 := blk_lt HKD0.out
  clear HK1
  go_wp2_with fail
  rw [← hM]
  clear hmm m3 ml q m3b ml2
  go_loopw [23, 6, 7, 8] (fun x _ _ _ wr => ∃ k : Nat, x = .int .i64 k ∧ k ≤ d.claims.length ∧ Hid (∀ j, j < k → claimC d.eng d.claims j = 0) ∧ Hid (claimsC d.eng d.claims = firstNZ (claimC d.eng d.claims) ((List.range d.claims.length).drop k)) ∧ Hid (Mp.At wr M (ents (d.claims.take k))) ∧ Hid (wr.heap[w.heap.size]? = some (.cells #[.slice a1 d.eng.procs.length k1, .slice a2 d.eng.insts.length k2, .int .i64 d.eng.now, .slice a3 d.claims.length k3] 30)) ∧ Hid (Below w.heap.size w wr)) (fun x _ _ _ _ => d.claims.length - (intOf x).toNat)
  case atStart => exact ⟨0, rfl, Nat.zero_le _, hid (fun j h => by omega), HRS0, HM0, HKD0, HBa⟩
  case round =>
    clear HM0 HKD0 HBa HRS0 hM
    obtain ⟨k, rfl, hk, HPF0, HRS0, HMr, HKr, HBr⟩ := hrel
    by_cases hlt : k < d.claims.length
    · obtain ⟨g, o, rfl, hg, c0, c1, c2⟩ := (HA.out.below HBr.out).claims.at hlt
      have t1 : (k : Int) < (d.claims.length : Int) := by omega
      have lr := blk_lt HKr.out
      have HMl := hid HMr.out.lt
      obtain ⟨P, eP⟩ : ∃ P, P = wr.heap.size := ⟨_, rfl⟩
      obtain ⟨w2, e2⟩ : ∃ w2, w2 = wr.alloc (.cells #[.int .i64 d.claims[k].inst, .int .i64 d.claims[k].step, .int .i64 d.claims[k].user] 143) := ⟨_, rfl⟩
      have hb2 : Below wr.heap.size wr w2 := by rw [e2]; exact (Below.refl _ wr).alloc (Nat.le_refl _) _
      have HB2 := hid (HBr.out.trans (hb2.mono HBr.out.size))
      have HKC2 : Hid (w2.heap[P]? = some (.cells #[.int .i64 d.claims[k].inst, .int .i64 d.claims[k].step, .int .i64 d.claims[k].user] 143)) := hid (by rw [e2, eP]; exact new_blk _ _)
      have HKD2 : Hid (w2.heap[w.heap.size]? = some (.cells #[.slice a1 d.eng.procs.length k1, .slice a2 d.eng.insts.length k2, .int .i64 d.eng.now, .slice (some ⟨g, o, none⟩) d.claims.length k3] 30)) := hid ((hb2.block _ lr).trans HKr.out)
      have HM2 := hid (HMr.out.keep (hb2.block M HMr.out.lt))
      have HNE : Hid (P ≠ M ∧ w.heap.size ≠ M ∧ w.heap.size ≤ M) := hid (by have := HMl.out; have := HMw.out; rw [eP]; omega)
      have HC := hid (implClaimFault d.eng _ _ d.claims[k] 0 w2 HS.out.eng (HA.out.below HB2.out).eng HZ.out)
      have m0 := blk_cell HKr.out 0
      have m1 := blk_cell HKr.out 1
      have m2 := blk_cell HKr.out 2
      have m3 := blk_cell HKr.out 3
      replace m0 : wr.cell? ⟨w.heap.size, 0, none⟩ = some (.slice a1 d.eng.procs.length k1) := m0
      replace m1 : wr.cell? ⟨w.heap.size, 1, none⟩ = some (.slice a2 d.eng.insts.length k2) := m1
      replace m2 : wr.cell? ⟨w.heap.size, 2, none⟩ = some (.int .i64 d.eng.now) := m2
      replace m3 : wr.cell? ⟨w.heap.size, 3, none⟩ = some (.slice (some ⟨g, o, none⟩) d.claims.length k3) := m3
      clear hb2
      have EP := hid eP
      clear eP
      go_wp2_with fail
      rw [← e2, ← EP.out]
      clear e2 m0 m1 m2 m3 c0 c1 c2 lr
      refine HC.out.mono ?_
      rintro z w3 ⟨rfl, hb3⟩
      have HB3 := hid (HB2.out.trans (hb3.mono HB2.out.size))
      have HKC3 : Hid (w3.heap[P]? = some (.cells #[.int .i64 d.claims[k].inst, .int .i64 d.claims[k].step, .int .i64 d.claims[k].user] 143)) := hid ((hb3.block _ (blk_lt HKC2.out)).trans HKC2.out)
      have HKD3 : Hid (w3.heap[w.heap.size]? = some (.cells #[.slice a1 d.eng.procs.length k1, .slice a2 d.eng.insts.length k2, .int .i64 d.eng.now, .slice (some ⟨g, o, none⟩) d.claims.length k3] 30)) := hid ((hb3.block _ (blk_lt HKD2.out)).trans HKD2.out)
      have HM3 := hid (HM2.out.keep (hb3.block M HM2.out.lt))
      clear hb3 HC HB2 HKC2 HKD2 HM2 HMr HKr HBr EP
      have hCJ := CJ_eq hlt
      by_cases hc0 : oneC d.eng d.claims[k] = 0
      case neg =>
        have HN : Hid (deskC d = oneC d.eng d.claims[k]) := hid (by
          have h1 := c_one (cs := d.claims) (k := k) (e := d.eng) (by rw [hCJ]; exact hc0)
          rw [HD.out, HRS0.out, rg_bad hlt (by rw [h1, hCJ]; exact hc0), h1, hCJ])
        have HC0 := hid hc0
        have b1 : (oneC d.eng d.claims[k] != 0) = true := bne_iff_ne.2 hc0
        generalize oneC d.eng d.claims[k] = pc at *
        clear hc0 hCJ
        go_wp2
        go_ret2
        exact COPost.bad HN.out HC0.out HB3.out
      have HO := hid hc0
      have HRG := hid (rg_of HS.out.eng HZ.out hc0)
      rw [hc0]
      have b1 : ((0 : Int) != 0) = false := rfl
      clear hc0
      rcases Nat.eq_zero_or_pos k with hk0 | hk0
      · have HX : Hid (claimC d.eng d.claims k = 0) := hid (c_first (by rw [hCJ]; exact HO.out) (by omega))
        have HPF : Hid (∀ j, j < k + 1 → claimC d.eng d.claims j = 0) := hid (lt_succ_cases HPF0.out HX.out)
        have HFR := hid (fresh hlt HPF.out)
        have HRS := hid (HRS0.out.trans (rg_next hlt HX.out))
        have d0 : decide ((0 : Int) < (k : Int)) = false := by simp; omega
        have d0' : decide (0 < k) = false := by simp; omega
        clear HPF0 HRS0 HX hCJ hk0
        go_wp2
        go_quiet (fail)
        have HBW := hid (Nd.below_drewN HB3.out nq)
        have HKC : Hid ((w3.drewN nq).heap[P]? = some (.cells #[.int .i64 d.claims[k].inst, .int .i64 d.claims[k].step, .int .i64 d.claims[k].user] 143)) := hid HKC3.out
        have HKD : Hid ((w3.drewN nq).heap[w.heap.size]? = some (.cells #[.slice a1 d.eng.procs.length k1, .slice a2 d.eng.insts.length k2, .int .i64 d.eng.now, .slice (some ⟨g, o, none⟩) d.claims.length k3] 30)) := hid HKD3.out
        have HM := hid (HM3.out.keep (w' := w3.drewN nq) rfl)
        clear HKC3 HKD3 HM3 HB3 d0 d0'
        generalize w3.drewN nq = w6 at *
        have HKCd : Hid (w6.drew.heap[P]? = some (.cells #[.int .i64 d.claims[k].inst, .int .i64 d.claims[k].step, .int .i64 d.claims[k].user] 143)) := hid HKC.out
        go_wp2
        refine wp_region_held_drew (S := fun wx => wx.heap[P]? = some (.cells #[.int .i64 d.claims[k].inst, .int .i64 d.claims[k].step, .int .i64 d.claims[k].user] 143)) (by kernel_rfl) HKCd.out (fun hHeld => ?_)
        refine wpAnyH_take (i := 0) (v := .map (some M)) rfl (by kernel_rfl) (by kernel_rfl) (by kernel_rfl) (fun _ _ _ h => h) (Or.inl ⟨by kernel_rfl, by intro w hSw; (try dsimp only at hSw); go_simp⟩) (by assumption) ?_
        simp only [Act.put, List.setIfInBounds_toArray, List.set_cons_zero, List.set_cons_succ]
        refine wpAnyH_take (i := 1) (v := .agg #[.int .i64 d.claims[k].inst, .int .i64 d.claims[k].step, .int .i64 d.claims[k].user]) rfl (by kernel_rfl) (by kernel_rfl) (by kernel_rfl) (fun _ _ _ h => h) (Or.inl ⟨by kernel_rfl, by intro w hSw; (try dsimp only at hSw); have m0 := Ch.blk_cell hSw 0; have m1 := Ch.blk_cell hSw 1; have m2 := Ch.blk_cell hSw 2; clear hSw; go_simp⟩) (by assumption) ?_
        simp only [Act.put, List.setIfInBounds_toArray, List.set_cons_zero, List.set_cons_succ]
        refine wpAnyH_take (i := 3) (v := .pointer (some ⟨P, 2, none⟩)) rfl (by kernel_rfl) (by kernel_rfl) (by kernel_rfl) (fun _ _ _ h => h) (Or.inl ⟨by kernel_rfl, by intro w hSw; (try dsimp only at hSw); go_simp⟩) (by assumption) ?_
        simp only [Act.put, List.setIfInBounds_toArray, List.set_cons_zero, List.set_cons_succ]
        refine wpAnyH_take (i := 4) (v := .int .i64 d.claims[k].user) rfl (by kernel_rfl) (by kernel_rfl) (by kernel_rfl) (fun _ _ _ h => h) (Or.inl ⟨by kernel_rfl, by intro w hSw; (try dsimp only at hSw); have m0 := Ch.blk_cell hSw 0; have m1 := Ch.blk_cell hSw 1; have m2 := Ch.blk_cell hSw 2; clear hSw; go_simp⟩) (by assumption) ?_
        simp only [Act.put, List.setIfInBounds_toArray, List.set_cons_zero, List.set_cons_succ]
        refine wpAnyH_ready (rs := [2]) (by kernel_rfl) (by simp) ?_
        refine AllReadyH.cons rfl (fun K hK => ?_) AllReadyH.nil
        go_simp
        go_at_call 151
        refine (implPlace d.claims[k].inst d.claims[k].step d.claims[k].user _).mono ?_
        rintro z w7 ⟨rfl, hb7⟩
        have hb7 : Below w6.heap.size w6 w7 := ((Below.refl w6.heap.size w6).drew).trans (hb7.mono ((Below.refl w6.heap.size w6).drew).size)
        have HKC7 : Hid (w7.heap[P]? = some (.cells #[.int .i64 d.claims[k].inst, .int .i64 d.claims[k].step, .int .i64 d.claims[k].user] 143)) := hid ((hb7.block _ (blk_lt HKC.out)).trans HKC.out)
        have HKD7 : Hid (w7.heap[w.heap.size]? = some (.cells #[.slice a1 d.eng.procs.length k1, .slice a2 d.eng.insts.length k2, .int .i64 d.eng.now, .slice (some ⟨g, o, none⟩) d.claims.length k3] 30)) := hid ((hb7.block _ (blk_lt HKD.out)).trans HKD.out)
        have HM7 := hid (HM.out.keep (hb7.block M HM.out.lt))
        have HB7 := hid (HBW.out.trans (hb7.mono HBW.out.size))
        clear hb7
        obtain ⟨ob, hrun, hmp, hot, hsz⟩ := Mp.At.put HM7.out HRG.out HFR.out (.int .i64 d.claims[k].user)
        have HMP : Hid (Mp.At (Go.ChangeMaps.setBlock w7 M ob) M (ents (d.claims.take (k + 1)))) := hid (by rw [ents_take hlt]; exact hmp)
        have HKC8 : Hid ((Go.ChangeMaps.setBlock w7 M ob).heap[P]? = some (.cells #[.int .i64 d.claims[k].inst, .int .i64 d.claims[k].step, .int .i64 d.claims[k].user] 143)) := hid ((hot P HNE.out.1).trans HKC7.out)
        have HKD8 : Hid ((Go.ChangeMaps.setBlock w7 M ob).heap[w.heap.size]? = some (.cells #[.slice a1 d.eng.procs.length k1, .slice a2 d.eng.insts.length k2, .int .i64 d.eng.now, .slice (some ⟨g, o, none⟩) d.claims.length k3] 30)) := hid ((hot w.heap.size HNE.out.2.1).trans HKD7.out)
        have HB8 : Hid (Below w.heap.size w (Go.ChangeMaps.setBlock w7 M ob)) := hid (below_block HB7.out HNE.out.2.2 hot hsz rfl rfl rfl)
        have hrun := hrun
        clear hmp hot hsz
        go_wp2_with fail
        refine hK.out _ _ HKC7.out (fun hHeld => ?_)
        clear hK K
        try simp only [Act.put, List.setIfInBounds_toArray, List.set_cons_zero, List.set_cons_succ]
        refine wpAnyH_ready (rs := [5]) (by kernel_rfl) (by simp) ?_
        refine AllReadyH.cons rfl (fun K hK => ?_) AllReadyH.nil
        refine step_put (by rfl) _ _ _ _ (by rfl) (by rfl) (by rfl) (by rfl) hrun ?_
        refine hK.out _ _ HKC8.out (fun hHeld => ?_)
        clear hK K
        try simp only [Act.put]
        refine wpAnyH_done (by kernel_rfl) ?_ _
        clear hrun hHeld HKC8 HKC7 HM7 HKD7 HB7 HKC HKD HM HBW
        generalize Go.ChangeMaps.setBlock w7 M ob = w9 at *
        go_wp2
        exact ⟨⟨k + 1, by simp, by omega, HPF, HRS, HMP, HKD8, HB8⟩, by simp [intOf]; omega⟩
      · obtain ⟨j, ej⟩ : ∃ j, k = j + 1 := ⟨k - 1, by omega⟩
        have hj : j < d.claims.length := by omega
        obtain ⟨g', o', eg, hg', cj0, cj1, cj2⟩ := (HA.out.below HB3.out).claims.at hj
        cases eg
        have HCJ : Hid (w3.cell? ⟨g, o + j * 3, none⟩ = some (.int .i64 d.claims[j].inst) ∧ w3.cell? ⟨g, o + j * 3 + 1, none⟩ = some (.int .i64 d.claims[j].step) ∧ w3.cell? ⟨g, o + j * 3 + 2, none⟩ = some (.int .i64 d.claims[j].user)) := hid ⟨cj0, cj1, cj2⟩
        have HGL := hid hg'
        have d0 : decide ((0 : Int) < (k : Int)) = true := by simp; omega
        have d1 : (0 : Int) < (k : Int) := by omega
        have d1' : decide (0 < k) = true := by simp; omega
        have t2 : (j : Int) < (d.claims.length : Int) := by omega
        have hwr : IntKind.i64.wrap ((k : Int) - 1) = (j : Int) := by rw [IntWalk.i64_in _ (by omega)]; omega
        have hCK : CJ d.claims (k - 1) = d.claims[j] := by rw [ej, Nat.add_sub_cancel, CJ_eq hj]
        clear cj0 cj1 cj2 hg'
        obtain ⟨r, eqr⟩ : ∃ r, cmpE (d.claims[j].inst, d.claims[j].step) (d.claims[k].inst, d.claims[k].step) = r := ⟨_, rfl⟩
        cases hah : aheadC d.claims[j] d.claims[k]
        · have d2 : decide (0 ≤ r) = true := by
            have : ¬ r < 0 := fun h => by rw [← eqr, ← ahead_cmp, hah] at h; cases h
            simp; omega
          have HN : Hid (deskC d = 1) := hid (by
            have h1 := c_form (cs := d.claims) (k := k) (e := d.eng) (by rw [hCJ]; exact HO.out) hk0 (by rw [hCK, hCJ]; exact hah)
            rw [HD.out, HRS0.out, rg_bad hlt (by rw [h1]; decide), h1])
          clear hah hCJ hCK ej
          have HSd : Hid (w3.drew.heap[w.heap.size]? = some (.cells #[.slice a1 d.eng.procs.length k1, .slice a2 d.eng.insts.length k2, .int .i64 d.eng.now, .slice (some ⟨g, o, none⟩) d.claims.length k3] 30) ∧ w3.drew.heap[P]? = some (.cells #[.int .i64 d.claims[k].inst, .int .i64 d.claims[k].step, .int .i64 d.claims[k].user] 143) ∧ w3.drew.cell? ⟨g, o + j * 3, none⟩ = some (.int .i64 d.claims[j].inst) ∧ w3.drew.cell? ⟨g, o + j * 3 + 1, none⟩ = some (.int .i64 d.claims[j].step) ∧ w3.drew.cell? ⟨g, o + j * 3 + 2, none⟩ = some (.int .i64 d.claims[j].user)) := hid ⟨HKD3.out, HKC3.out, HCJ.out⟩
          go_wp2
          refine wp_region_held_drew (S := fun wx => wx.heap[w.heap.size]? = some (.cells #[.slice a1 d.eng.procs.length k1, .slice a2 d.eng.insts.length k2, .int .i64 d.eng.now, .slice (some ⟨g, o, none⟩) d.claims.length k3] 30) ∧ wx.heap[P]? = some (.cells #[.int .i64 d.claims[k].inst, .int .i64 d.claims[k].step, .int .i64 d.claims[k].user] 143) ∧ wx.cell? ⟨g, o + j * 3, none⟩ = some (.int .i64 d.claims[j].inst) ∧ wx.cell? ⟨g, o + j * 3 + 1, none⟩ = some (.int .i64 d.claims[j].step) ∧ wx.cell? ⟨g, o + j * 3 + 2, none⟩ = some (.int .i64 d.claims[j].user)) (by kernel_rfl) HSd.out (fun hHeld => ?_)
          refine wpAnyH_take (i := 0) (v := .int .i64 (k : Int)) rfl (by kernel_rfl) (by kernel_rfl) (by kernel_rfl) (fun _ _ _ h => h) (Or.inl ⟨by kernel_rfl, by intro w hSw; (try dsimp only at hSw); go_simp⟩) (by assumption) ?_
          simp only [Act.put, List.setIfInBounds_toArray, List.set_cons_zero, List.set_cons_succ]
          refine wpAnyH_take (i := 1) (v := .bool true) rfl (by kernel_rfl) (by kernel_rfl) (by kernel_rfl) (fun _ _ _ h => h) (Or.inl ⟨by kernel_rfl, by intro w hSw; (try dsimp only at hSw); go_simp⟩) (by assumption) ?_
          simp only [Act.put, List.setIfInBounds_toArray, List.set_cons_zero, List.set_cons_succ]
          refine wpAnyH_take (i := 2) (v := .bool true) rfl (by kernel_rfl) (by kernel_rfl) (by kernel_rfl) (fun _ _ _ h => h) (Or.inl ⟨by kernel_rfl, by intro w hSw; (try dsimp only at hSw); go_simp⟩) (by assumption) ?_
          simp only [Act.put, List.setIfInBounds_toArray, List.set_cons_zero, List.set_cons_succ]
          refine wpAnyH_take (i := 3) (v := .pointer (some ⟨w.heap.size, 3, none⟩)) rfl (by kernel_rfl) (by kernel_rfl) (by kernel_rfl) (fun _ _ _ h => h) (Or.inl ⟨by kernel_rfl, by intro w hSw; (try dsimp only at hSw); go_simp⟩) (by assumption) ?_
          simp only [Act.put, List.setIfInBounds_toArray, List.set_cons_zero, List.set_cons_succ]
          refine wpAnyH_take (i := 4) (v := .slice (some ⟨g, o, none⟩) d.claims.length k3) rfl (by kernel_rfl) (by kernel_rfl) (by kernel_rfl) (fun _ _ _ h => h) (Or.inl ⟨by kernel_rfl, by intro w hSw; (try dsimp only at hSw); obtain ⟨h1, h2, h3, h4, h5⟩ := hSw; have m0 := Ch.blk_cell h1 0; have m1 := Ch.blk_cell h1 1; have m2 := Ch.blk_cell h1 2; have m3 := Ch.blk_cell h1 3; clear h1 h2 h3 h4 h5; go_simp⟩) (by assumption) ?_
          simp only [Act.put, List.setIfInBounds_toArray, List.set_cons_zero, List.set_cons_succ]
          refine wpAnyH_take (i := 5) (v := .int .i64 (k : Int)) rfl (by kernel_rfl) (by kernel_rfl) (by kernel_rfl) (fun _ _ _ h => h) (Or.inl ⟨by kernel_rfl, by intro w hSw; (try dsimp only at hSw); go_simp⟩) (by assumption) ?_
          simp only [Act.put, List.setIfInBounds_toArray, List.set_cons_zero, List.set_cons_succ]
          refine wpAnyH_take (i := 6) (v := .int .i64 (j : Int)) rfl (by kernel_rfl) (by kernel_rfl) (by kernel_rfl) (fun _ _ _ h => h) (Or.inl ⟨by kernel_rfl, by intro w hSw; (try dsimp only at hSw); go_simp⟩) (by assumption) ?_
          simp only [Act.put, List.setIfInBounds_toArray, List.set_cons_zero, List.set_cons_succ]
          refine wpAnyH_take (i := 7) (v := .pointer (some ⟨g, o + j * 3, none⟩)) rfl (by kernel_rfl) (by kernel_rfl) (by kernel_rfl) (fun _ _ _ h => h) (Or.inl ⟨by kernel_rfl, by intro w hSw; (try dsimp only at hSw); go_simp⟩) (by assumption) ?_
          simp only [Act.put, List.setIfInBounds_toArray, List.set_cons_zero, List.set_cons_succ]
          refine wpAnyH_take (i := 8) (v := .agg #[.int .i64 d.claims[j].inst, .int .i64 d.claims[j].step, .int .i64 d.claims[j].user]) rfl (by kernel_rfl) (by kernel_rfl) (by kernel_rfl) (fun _ _ _ h => h) (Or.inl ⟨by kernel_rfl, by intro w hSw; (try dsimp only at hSw); obtain ⟨h1, h2, h3, h4, h5⟩ := hSw; clear h1 h2; go_simp⟩) (by assumption) ?_
          simp only [Act.put, List.setIfInBounds_toArray, List.set_cons_zero, List.set_cons_succ]
          refine wpAnyH_take (i := 9) (v := .agg #[.int .i64 d.claims[k].inst, .int .i64 d.claims[k].step, .int .i64 d.claims[k].user]) rfl (by kernel_rfl) (by kernel_rfl) (by kernel_rfl) (fun _ _ _ h => h) (Or.inl ⟨by kernel_rfl, by intro w hSw; (try dsimp only at hSw); obtain ⟨h1, h2, h3, h4, h5⟩ := hSw; have m0 := Ch.blk_cell h2 0; have m1 := Ch.blk_cell h2 1; have m2 := Ch.blk_cell h2 2; clear h1 h2 h3 h4 h5; go_simp⟩) (by assumption) ?_
          simp only [Act.put, List.setIfInBounds_toArray, List.set_cons_zero, List.set_cons_succ]
          refine wpAnyH_ready (rs := [10]) (by kernel_rfl) (by simp) ?_
          refine AllReadyH.cons rfl (fun K hK => ?_) AllReadyH.nil
          go_simp
          go_at_call 137
          refine (implComparePlacesB d.claims[j] d.claims[k] _).mono ?_
          rintro z w4 ⟨rfl, hb4⟩
          rw [eqr]
          have hb4 : Below w3.heap.size w3 w4 := ((Below.refl w3.heap.size w3).drew).trans (hb4.mono ((Below.refl w3.heap.size w3).drew).size)
          have HKC4 : Hid (w4.heap[P]? = some (.cells #[.int .i64 d.claims[k].inst, .int .i64 d.claims[k].step, .int .i64 d.claims[k].user] 143)) := hid ((hb4.block _ (blk_lt HKC3.out)).trans HKC3.out)
          have HKD4 : Hid (w4.heap[w.heap.size]? = some (.cells #[.slice a1 d.eng.procs.length k1, .slice a2 d.eng.insts.length k2, .int .i64 d.eng.now, .slice (some ⟨g, o, none⟩) d.claims.length k3] 30)) := hid ((hb4.block _ (blk_lt HKD3.out)).trans HKD3.out)
          have HCJ4 : Hid (w4.cell? ⟨g, o + j * 3, none⟩ = some (.int .i64 d.claims[j].inst) ∧ w4.cell? ⟨g, o + j * 3 + 1, none⟩ = some (.int .i64 d.claims[j].step) ∧ w4.cell? ⟨g, o + j * 3 + 2, none⟩ = some (.int .i64 d.claims[j].user)) := hid ⟨old_cell hb4 HGL.out HCJ.out.1, old_cell hb4 HGL.out HCJ.out.2.1, old_cell hb4 HGL.out HCJ.out.2.2⟩
          have HM4 := hid (HM3.out.keep (hb4.block M HM3.out.lt))
          have HB4 := hid (HB3.out.trans (hb4.mono HB3.out.size))
          clear hb4
          go_wp2_with fail
          refine hK.out _ _ ⟨HKD4.out, HKC4.out, HCJ4.out⟩ (fun hHeld => ?_)
          clear hK K
          try simp only [Act.put, List.setIfInBounds_toArray, List.set_cons_zero, List.set_cons_succ]
          refine wpAnyH_take (i := 11) (v := .bool true) rfl (by kernel_rfl) (by kernel_rfl) (by kernel_rfl) (fun _ _ _ h => h) (Or.inl ⟨by kernel_rfl, by intro w hSw; (try dsimp only at hSw); go_simp⟩) (by assumption) ?_
          simp only [Act.put, List.setIfInBounds_toArray, List.set_cons_zero, List.set_cons_succ]
          refine wpAnyH_take (i := 12) (v := .bool true) rfl (by kernel_rfl) (by kernel_rfl) (by kernel_rfl) (fun _ _ _ h => h) (Or.inl ⟨by kernel_rfl, by intro w hSw; (try dsimp only at hSw); go_simp⟩) (by assumption) ?_
          simp only [Act.put, List.setIfInBounds_toArray, List.set_cons_zero, List.set_cons_succ]
          refine wpAnyH_done (by kernel_rfl) ?_ _
          simp only [List.getElem_toArray, List.getElem_cons_succ, List.getElem_cons_zero, Act.put, List.setIfInBounds_toArray, List.set_cons_zero, List.set_cons_succ]
          clear hHeld HSd HKC3 HKD3 HCJ HM3 HB3 HCJ4
          go_wp2
          go_ret2
          exact COPost.bad HN.out (by decide) HB4.out
        · have d2 : decide (0 ≤ r) = false := by
            have : r < 0 := by rw [← eqr, ← ahead_cmp]; exact hah
            simp; omega
          have HX : Hid (claimC d.eng d.claims k = 0) := hid (c_ok (by rw [hCJ]; exact HO.out) (by rw [hCK, hCJ]; exact hah))
          have HPF : Hid (∀ j, j < k + 1 → claimC d.eng d.claims j = 0) := hid (lt_succ_cases HPF0.out HX.out)
          have HFR := hid (fresh hlt HPF.out)
          have HRS := hid (HRS0.out.trans (rg_next hlt HX.out))
          clear hah hCJ hCK HPF0 HRS0 HX ej
          have HSd : Hid (w3.drew.heap[w.heap.size]? = some (.cells #[.slice a1 d.eng.procs.length k1, .slice a2 d.eng.insts.length k2, .int .i64 d.eng.now, .slice (some ⟨g, o, none⟩) d.claims.length k3] 30) ∧ w3.drew.heap[P]? = some (.cells #[.int .i64 d.claims[k].inst, .int .i64 d.claims[k].step, .int .i64 d.claims[k].user] 143) ∧ w3.drew.cell? ⟨g, o + j * 3, none⟩ = some (.int .i64 d.claims[j].inst) ∧ w3.drew.cell? ⟨g, o + j * 3 + 1, none⟩ = some (.int .i64 d.claims[j].step) ∧ w3.drew.cell? ⟨g, o + j * 3 + 2, none⟩ = some (.int .i64 d.claims[j].user)) := hid ⟨HKD3.out, HKC3.out, HCJ.out⟩
          go_wp2
          refine wp_region_held_drew (S := fun wx => wx.heap[w.heap.size]? = some (.cells #[.slice a1 d.eng.procs.length k1, .slice a2 d.eng.insts.length k2, .int .i64 d.eng.now, .slice (some ⟨g, o, none⟩) d.claims.length k3] 30) ∧ wx.heap[P]? = some (.cells #[.int .i64 d.claims[k].inst, .int .i64 d.claims[k].step, .int .i64 d.claims[k].user] 143) ∧ wx.cell? ⟨g, o + j * 3, none⟩ = some (.int .i64 d.claims[j].inst) ∧ wx.cell? ⟨g, o + j * 3 + 1, none⟩ = some (.int .i64 d.claims[j].step) ∧ wx.cell? ⟨g, o + j * 3 + 2, none⟩ = some (.int .i64 d.claims[j].user)) (by kernel_rfl) HSd.out (fun hHeld => ?_)
          refine wpAnyH_take (i := 0) (v := .int .i64 (k : Int)) rfl (by kernel_rfl) (by kernel_rfl) (by kernel_rfl) (fun _ _ _ h => h) (Or.inl ⟨by kernel_rfl, by intro w hSw; (try dsimp only at hSw); go_simp⟩) (by assumption) ?_
          simp only [Act.put, List.setIfInBounds_toArray, List.set_cons_zero, List.set_cons_succ]
          refine wpAnyH_take (i := 1) (v := .bool true) rfl (by kernel_rfl) (by kernel_rfl) (by kernel_rfl) (fun _ _ _ h => h) (Or.inl ⟨by kernel_rfl, by intro w hSw; (try dsimp only at hSw); go_simp⟩) (by assumption) ?_
          simp only [Act.put, List.setIfInBounds_toArray, List.set_cons_zero, List.set_cons_succ]
          refine wpAnyH_take (i := 2) (v := .bool true) rfl (by kernel_rfl) (by kernel_rfl) (by kernel_rfl) (fun _ _ _ h => h) (Or.inl ⟨by kernel_rfl, by intro w hSw; (try dsimp only at hSw); go_simp⟩) (by assumption) ?_
          simp only [Act.put, List.setIfInBounds_toArray, List.set_cons_zero, List.set_cons_succ]
          refine wpAnyH_take (i := 3) (v := .pointer (some ⟨w.heap.size, 3, none⟩)) rfl (by kernel_rfl) (by kernel_rfl) (by kernel_rfl) (fun _ _ _ h => h) (Or.inl ⟨by kernel_rfl, by intro w hSw; (try dsimp only at hSw); go_simp⟩) (by assumption) ?_
          simp only [Act.put, List.setIfInBounds_toArray, List.set_cons_zero, List.set_cons_succ]
          refine wpAnyH_take (i := 4) (v := .slice (some ⟨g, o, none⟩) d.claims.length k3) rfl (by kernel_rfl) (by kernel_rfl) (by kernel_rfl) (fun _ _ _ h => h) (Or.inl ⟨by kernel_rfl, by intro w hSw; (try dsimp only at hSw); obtain ⟨h1, h2, h3, h4, h5⟩ := hSw; have m0 := Ch.blk_cell h1 0; have m1 := Ch.blk_cell h1 1; have m2 := Ch.blk_cell h1 2; have m3 := Ch.blk_cell h1 3; clear h1 h2 h3 h4 h5; go_simp⟩) (by assumption) ?_
          simp only [Act.put, List.setIfInBounds_toArray, List.set_cons_zero, List.set_cons_succ]
          refine wpAnyH_take (i := 5) (v := .int .i64 (k : Int)) rfl (by kernel_rfl) (by kernel_rfl) (by kernel_rfl) (fun _ _ _ h => h) (Or.inl ⟨by kernel_rfl, by intro w hSw; (try dsimp only at hSw); go_simp⟩) (by assumption) ?_
          simp only [Act.put, List.setIfInBounds_toArray, List.set_cons_zero, List.set_cons_succ]
          refine wpAnyH_take (i := 6) (v := .int .i64 (j : Int)) rfl (by kernel_rfl) (by kernel_rfl) (by kernel_rfl) (fun _ _ _ h => h) (Or.inl ⟨by kernel_rfl, by intro w hSw; (try dsimp only at hSw); go_simp⟩) (by assumption) ?_
          simp only [Act.put, List.setIfInBounds_toArray, List.set_cons_zero, List.set_cons_succ]
          refine wpAnyH_take (i := 7) (v := .pointer (some ⟨g, o + j * 3, none⟩)) rfl (by kernel_rfl) (by kernel_rfl) (by kernel_rfl) (fun _ _ _ h => h) (Or.inl ⟨by kernel_rfl, by intro w hSw; (try dsimp only at hSw); go_simp⟩) (by assumption) ?_
          simp only [Act.put, List.setIfInBounds_toArray, List.set_cons_zero, List.set_cons_succ]
          refine wpAnyH_take (i := 8) (v := .agg #[.int .i64 d.claims[j].inst, .int .i64 d.claims[j].step, .int .i64 d.claims[j].user]) rfl (by kernel_rfl) (by kernel_rfl) (by kernel_rfl) (fun _ _ _ h => h) (Or.inl ⟨by kernel_rfl, by intro w hSw; (try dsimp only at hSw); obtain ⟨h1, h2, h3, h4, h5⟩ := hSw; clear h1 h2; go_simp⟩) (by assumption) ?_
          simp only [Act.put, List.setIfInBounds_toArray, List.set_cons_zero, List.set_cons_succ]
          refine wpAnyH_take (i := 9) (v := .agg #[.int .i64 d.claims[k].inst, .int .i64 d.claims[k].step, .int .i64 d.claims[k].user]) rfl (by kernel_rfl) (by kernel_rfl) (by kernel_rfl) (fun _ _ _ h => h) (Or.inl ⟨by kernel_rfl, by intro w hSw; (try dsimp only at hSw); obtain ⟨h1, h2, h3, h4, h5⟩ := hSw; have m0 := Ch.blk_cell h2 0; have m1 := Ch.blk_cell h2 1; have m2 := Ch.blk_cell h2 2; clear h1 h2 h3 h4 h5; go_simp⟩) (by assumption) ?_
          simp only [Act.put, List.setIfInBounds_toArray, List.set_cons_zero, List.set_cons_succ]
          refine wpAnyH_ready (rs := [10]) (by kernel_rfl) (by simp) ?_
          refine AllReadyH.cons rfl (fun K hK => ?_) AllReadyH.nil
          go_simp
          go_at_call 137
          refine (implComparePlacesB d.claims[j] d.claims[k] _).mono ?_
          rintro z w4 ⟨rfl, hb4⟩
          rw [eqr]
          have hb4 : Below w3.heap.size w3 w4 := ((Below.refl w3.heap.size w3).drew).trans (hb4.mono ((Below.refl w3.heap.size w3).drew).size)
          have HKC4 : Hid (w4.heap[P]? = some (.cells #[.int .i64 d.claims[k].inst, .int .i64 d.claims[k].step, .int .i64 d.claims[k].user] 143)) := hid ((hb4.block _ (blk_lt HKC3.out)).trans HKC3.out)
          have HKD4 : Hid (w4.heap[w.heap.size]? = some (.cells #[.slice a1 d.eng.procs.length k1, .slice a2 d.eng.insts.length k2, .int .i64 d.eng.now, .slice (some ⟨g, o, none⟩) d.claims.length k3] 30)) := hid ((hb4.block _ (blk_lt HKD3.out)).trans HKD3.out)
          have HCJ4 : Hid (w4.cell? ⟨g, o + j * 3, none⟩ = some (.int .i64 d.claims[j].inst) ∧ w4.cell? ⟨g, o + j * 3 + 1, none⟩ = some (.int .i64 d.claims[j].step) ∧ w4.cell? ⟨g, o + j * 3 + 2, none⟩ = some (.int .i64 d.claims[j].user)) := hid ⟨old_cell hb4 HGL.out HCJ.out.1, old_cell hb4 HGL.out HCJ.out.2.1, old_cell hb4 HGL.out HCJ.out.2.2⟩
          have HM4 := hid (HM3.out.keep (hb4.block M HM3.out.lt))
          have HB4 := hid (HB3.out.trans (hb4.mono HB3.out.size))
          clear hb4
          go_wp2_with fail
          refine hK.out _ _ ⟨HKD4.out, HKC4.out, HCJ4.out⟩ (fun hHeld => ?_)
          clear hK K
          try simp only [Act.put, List.setIfInBounds_toArray, List.set_cons_zero, List.set_cons_succ]
          refine wpAnyH_take (i := 11) (v := .bool false) rfl (by kernel_rfl) (by kernel_rfl) (by kernel_rfl) (fun _ _ _ h => h) (Or.inl ⟨by kernel_rfl, by intro w hSw; (try dsimp only at hSw); go_simp⟩) (by assumption) ?_
          simp only [Act.put, List.setIfInBounds_toArray, List.set_cons_zero, List.set_cons_succ]
          refine wpAnyH_take (i := 12) (v := .bool false) rfl (by kernel_rfl) (by kernel_rfl) (by kernel_rfl) (fun _ _ _ h => h) (Or.inl ⟨by kernel_rfl, by intro w hSw; (try dsimp only at hSw); go_simp⟩) (by assumption) ?_
          simp only [Act.put, List.setIfInBounds_toArray, List.set_cons_zero, List.set_cons_succ]
          refine wpAnyH_done (by kernel_rfl) ?_ _
          simp only [List.getElem_toArray, List.getElem_cons_succ, List.getElem_cons_zero, Act.put, List.setIfInBounds_toArray, List.set_cons_zero, List.set_cons_succ]
          clear hHeld HSd HKC3 HKD3 HCJ HM3 HB3 HCJ4
          have HBW := HB4
          have HKC := HKC4
          have HKD := HKD4
          have HM := HM4
          clear HB4 HKC4 HKD4 HM4 d0 d1 d2 hwr eqr d1' hk0
          have HKCd : Hid (w4.drew.heap[P]? = some (.cells #[.int .i64 d.claims[k].inst, .int .i64 d.claims[k].step, .int .i64 d.claims[k].user] 143)) := hid HKC.out
          go_wp2
          refine wp_region_held_drew (S := fun wx => wx.heap[P]? = some (.cells #[.int .i64 d.claims[k].inst, .int .i64 d.claims[k].step, .int .i64 d.claims[k].user] 143)) (by kernel_rfl) HKCd.out (fun hHeld => ?_)
          refine wpAnyH_take (i := 0) (v := .map (some M)) rfl (by kernel_rfl) (by kernel_rfl) (by kernel_rfl) (fun _ _ _ h => h) (Or.inl ⟨by kernel_rfl, by intro w hSw; (try dsimp only at hSw); go_simp⟩) (by assumption) ?_
          simp only [Act.put, List.setIfInBounds_toArray, List.set_cons_zero, List.set_cons_succ]
          refine wpAnyH_take (i := 1) (v := .agg #[.int .i64 d.claims[k].inst, .int .i64 d.claims[k].step, .int .i64 d.claims[k].user]) rfl (by kernel_rfl) (by kernel_rfl) (by kernel_rfl) (fun _ _ _ h => h) (Or.inl ⟨by kernel_rfl, by intro w hSw; (try dsimp only at hSw); have m0 := Ch.blk_cell hSw 0; have m1 := Ch.blk_cell hSw 1; have m2 := Ch.blk_cell hSw 2; clear hSw; go_simp⟩) (by assumption) ?_
          simp only [Act.put, List.setIfInBounds_toArray, List.set_cons_zero, List.set_cons_succ]
          refine wpAnyH_take (i := 3) (v := .pointer (some ⟨P, 2, none⟩)) rfl (by kernel_rfl) (by kernel_rfl) (by kernel_rfl) (fun _ _ _ h => h) (Or.inl ⟨by kernel_rfl, by intro w hSw; (try dsimp only at hSw); go_simp⟩) (by assumption) ?_
          simp only [Act.put, List.setIfInBounds_toArray, List.set_cons_zero, List.set_cons_succ]
          refine wpAnyH_take (i := 4) (v := .int .i64 d.claims[k].user) rfl (by kernel_rfl) (by kernel_rfl) (by kernel_rfl) (fun _ _ _ h => h) (Or.inl ⟨by kernel_rfl, by intro w hSw; (try dsimp only at hSw); have m0 := Ch.blk_cell hSw 0; have m1 := Ch.blk_cell hSw 1; have m2 := Ch.blk_cell hSw 2; clear hSw; go_simp⟩) (by assumption) ?_
          simp only [Act.put, List.setIfInBounds_toArray, List.set_cons_zero, List.set_cons_succ]
          refine wpAnyH_ready (rs := [2]) (by kernel_rfl) (by simp) ?_
          refine AllReadyH.cons rfl (fun K hK => ?_) AllReadyH.nil
          go_simp
          go_at_call 151
          refine (implPlace d.claims[k].inst d.claims[k].step d.claims[k].user _).mono ?_
          rintro z w7 ⟨rfl, hb7⟩
          have hb7 : Below w4.heap.size w4 w7 := ((Below.refl w4.heap.size w4).drew).trans (hb7.mono ((Below.refl w4.heap.size w4).drew).size)
          have HKC7 : Hid (w7.heap[P]? = some (.cells #[.int .i64 d.claims[k].inst, .int .i64 d.claims[k].step, .int .i64 d.claims[k].user] 143)) := hid ((hb7.block _ (blk_lt HKC.out)).trans HKC.out)
          have HKD7 : Hid (w7.heap[w.heap.size]? = some (.cells #[.slice a1 d.eng.procs.length k1, .slice a2 d.eng.insts.length k2, .int .i64 d.eng.now, .slice (some ⟨g, o, none⟩) d.claims.length k3] 30)) := hid ((hb7.block _ (blk_lt HKD.out)).trans HKD.out)
          have HM7 := hid (HM.out.keep (hb7.block M HM.out.lt))
          have HB7 := hid (HBW.out.trans (hb7.mono HBW.out.size))
          clear hb7
          obtain ⟨ob, hrun, hmp, hot, hsz⟩ := Mp.At.put HM7.out HRG.out HFR.out (.int .i64 d.claims[k].user)
          have HMP : Hid (Mp.At (Go.ChangeMaps.setBlock w7 M ob) M (ents (d.claims.take (k + 1)))) := hid (by rw [ents_take hlt]; exact hmp)
          have HKC8 : Hid ((Go.ChangeMaps.setBlock w7 M ob).heap[P]? = some (.cells #[.int .i64 d.claims[k].inst, .int .i64 d.claims[k].step, .int .i64 d.claims[k].user] 143)) := hid ((hot P HNE.out.1).trans HKC7.out)
          have HKD8 : Hid ((Go.ChangeMaps.setBlock w7 M ob).heap[w.heap.size]? = some (.cells #[.slice a1 d.eng.procs.length k1, .slice a2 d.eng.insts.length k2, .int .i64 d.eng.now, .slice (some ⟨g, o, none⟩) d.claims.length k3] 30)) := hid ((hot w.heap.size HNE.out.2.1).trans HKD7.out)
          have HB8 : Hid (Below w.heap.size w (Go.ChangeMaps.setBlock w7 M ob)) := hid (below_block HB7.out HNE.out.2.2 hot hsz rfl rfl rfl)
          have hrun := hrun
          clear hmp hot hsz
          go_wp2_with fail
          refine hK.out _ _ HKC7.out (fun hHeld => ?_)
          clear hK K
          try simp only [Act.put, List.setIfInBounds_toArray, List.set_cons_zero, List.set_cons_succ]
          refine wpAnyH_ready (rs := [5]) (by kernel_rfl) (by simp) ?_
          refine AllReadyH.cons rfl (fun K hK => ?_) AllReadyH.nil
          refine step_put (by rfl) _ _ _ _ (by rfl) (by rfl) (by rfl) (by rfl) hrun ?_
          refine hK.out _ _ HKC8.out (fun hHeld => ?_)
          clear hK K
          try simp only [Act.put]
          refine wpAnyH_done (by kernel_rfl) ?_ _
          clear hrun hHeld HKC8 HKC7 HM7 HKD7 HB7 HKC HKD HM HBW
          generalize Go.ChangeMaps.setBlock w7 M ob = w9 at *
          go_wp2
          exact ⟨⟨k + 1, by simp, by omega, HPF, HRS, HMP, HKD8, HB8⟩, by simp [intOf]; omega⟩
    · obtain rfl : k = d.claims.length := by omega
      have HN : Hid (deskC d = 0) := hid (by rw [HD.out, HRS0.out, rg_end (Nat.le_refl _)])
      have HMe := HMr
      rw [List.take_of_length_le (Nat.le_refl _)] at HMe
      go_wp2
      go_ret2
      exact COPost.good HN.out HMe.out (Nat.le_of_lt HMw.out) HBr.out
end Dk
end Go.Proofs.YtccklgopcjilcaaGreatDoor
