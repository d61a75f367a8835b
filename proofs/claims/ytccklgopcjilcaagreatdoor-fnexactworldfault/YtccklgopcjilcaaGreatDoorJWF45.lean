/- EngineFault of the program, whole. Condition: the table of rules lies as its initialiser lays it. -/
import Derived.Test.YtccklgopcjilcaaGreatDoorJWF43
namespace Go.Proofs.YtccklgopcjilcaaGreatDoor
open Go.RowKit Go.Deep
set_option linter.unusedVariables false
namespace Eg
open St (StepD)
open Ei (InstD)
open En (EngD)
open Kc (chartC)
open Pf (pFault Rul implProcFault)
open Ex (inR hid)
set_option maxRecDepth 100000 in
set_option maxHeartbeats 8000000 in
theorem implEngineFault (e : EngD) (vp vi : Value) (w : World) (hs : En.Small 1048576 e) (ha : En.At w 0 vp vi e) (hr : Rul w) :
    Calls Tryz.prog 99 #[.agg #[vp, vi, .int .i64 e.now]] w fun z w' => z = .returned (.int .i64 (engC e)) ∧ Below w.heap.size w w' := by
  obtain ⟨a1, k1, rfl⟩ := ha.procs.slice
  obtain ⟨a2, k2, rfl⟩ := ha.insts.slice
  have hl1 := hs.procs.1
  have hl2 := hs.insts.1
  have HB : Hid (Below w.heap.size w (w.alloc (.cells #[.slice a1 e.procs.length k1, .slice a2 e.insts.length k2, .int .i64 e.now] 27))) := hid ((Below.refl _ w).alloc (Nat.le_refl _) _)
  by_cases q1 : (e.procs.length : Int) < 1
  · have HE := hid (e_many (e := e) (by omega))
    clear hs ha hr
    go_enter Tryz.func99, Tryz.ntmps99
    go_wp2
    go_ret
    exact ⟨by rw [HE.out]; rfl, HB.out⟩
  by_cases q2 : 3 < (e.procs.length : Int)
  · have HE := hid (e_many (e := e) (by omega))
    clear hs ha hr
    go_enter Tryz.func99, Tryz.ntmps99
    go_wp2
    go_ret
    exact ⟨by rw [HE.out]; rfl, HB.out⟩
  by_cases q3 : 6 < (e.insts.length : Int)
  · have HE := hid (e_many (e := e) (by omega))
    clear hs ha hr
    go_enter Tryz.func99, Tryz.ntmps99
    go_wp2
    go_ret
    exact ⟨by rw [HE.out]; rfl, HB.out⟩
  obtain ⟨w0, e0⟩ : ∃ w0, w0 = w.alloc (.cells #[.slice a1 e.procs.length k1, .slice a2 e.insts.length k2, .int .i64 e.now] 27) := ⟨_, rfl⟩
  rw [← e0] at HB
  have HA := hid (ha.below HB.out)
  have HR := hid (hr.below HB.out hr.lt)
  have HK : Hid (w0.heap[w.heap.size]? = some (.cells #[.slice a1 e.procs.length k1, .slice a2 e.insts.length k2, .int .i64 e.now] 27)) := hid (by rw [e0]; exact Ch.new_blk _ _)
  have HS0 := hid hs
  have HP0 := hid (p_few (ps := e.procs) (by omega))
  have HI0 := hid (show ¬ 6 < e.insts.length by omega)
  clear hs ha hr
  go_enter Tryz.func99, Tryz.ntmps99
  go_wp2_with fail
  rw [← e0]
  clear e0 q1 q2 q3
  go_loopw [27, 4, 5] (fun x _ _ wr => ∃ k : Nat, x = .int .i64 k ∧ k ≤ e.procs.length ∧ Hid (procsC e.procs = firstNZ pFault (e.procs.drop k)) ∧ Hid (Below w0.heap.size w0 wr)) (fun x _ _ _ => e.procs.length - (intOf x).toNat)
  case atStart => exact ⟨0, rfl, Nat.zero_le _, HP0, hid (Below.refl _ _)⟩
  case round =>
    obtain ⟨k, rfl, hk, HP, HBR⟩ := hrel
    by_cases hlt : k < e.procs.length
    · obtain ⟨g, o, x1, rfl, hg, p0, hst⟩ := (HA.out.below HBR.out).procs.at hlt
      have t1 : (k : Int) < (e.procs.length : Int) := by omega
      obtain ⟨b1, l1, rfl⟩ := hst.slice
      obtain ⟨w2, e2⟩ : ∃ w2, w2 = wr.alloc (.cells #[.slice b1 e.procs[k].length l1] 89) := ⟨_, rfl⟩
      have hb2 : Below wr.heap.size wr w2 := by rw [e2]; exact (Below.refl _ wr).alloc (Nat.le_refl _) _
      have hrr := HR.out.below HBR.out HR.out.lt
      have HC := hid (implProcFault e.procs[k] _ w2 (HS0.out.procs.at hlt) (hst.below hb2) (hrr.below hb2 hrr.lt))
      have HB2 := hid (HBR.out.trans (hb2.mono HBR.out.size))
      clear hst hb2 hrr
      go_wp2_with fail
      rw [← e2]
      clear e2
      refine HC.out.mono ?_
      rintro z w3 ⟨rfl, hb3⟩
      have HB3 := hid (HB2.out.trans (hb3.mono HB2.out.size))
      clear hb3 HC HB2
      by_cases hz : pFault e.procs[k] = 0
      · have HN : Hid (procsC e.procs = firstNZ pFault (e.procs.drop (k + 1))) := hid (by rw [HP.out, nz_next hlt hz])
        rw [hz]
        have b0 : ((0 : Int) != 0) = false := rfl
        clear hz HP
        go_wp2
        exact ⟨⟨k + 1, by simp, by omega, HN, HB3⟩, by simp [intOf]; omega⟩
      · have HN : Hid (engC e = pFault e.procs[k]) := hid (by
          have h1 : procsC e.procs = pFault e.procs[k] := by rw [HP.out, nz_bad hlt hz]
          rw [e_proc HI0.out (by rw [h1]; exact hz), h1])
        have b0 : (pFault e.procs[k] != 0) = true := bne_iff_ne.2 hz
        generalize pFault e.procs[k] = pc at *
        clear hz HP
        go_wp2
        go_ret
        exact ⟨by rw [HN.out]; rfl, HB.out.trans (HB3.out.mono HB.out.size)⟩
    · have HPZ : Hid (procsC e.procs = 0) := hid (by rw [HP.out, nz_end (by omega)])
      have hk1 := (HBR.out.block _ (Ch.blk_lt HK.out)).trans HK.out
      have m2 := Ch.blk_cell hk1 2
      have lk := Ch.blk_lt hk1
      replace m2 : wr.cell? ⟨w.heap.size, 2, none⟩ = some (.int .i64 e.now) := m2
      have HT := hid (fun w' => Kc.isTime e.now w')
      have m1 := Ch.blk_cell hk1 1
      replace m1 : wr.cell? ⟨w.heap.size, 1, none⟩ = some (.slice a2 e.insts.length k2) := m1
      clear HP HP0 hk1
      go_wp2_with fail
      refine (HT.out _).mono ?_
      rintro z w3 ⟨rfl, hw3⟩
      replace hw3 := hw3.symm
      subst hw3
      cases hx : inR e.now 0 1000000
      · have HE := hid (e_now HI0.out HPZ.out hx)
        clear hx
        go_wp2
        go_ret
        exact ⟨by rw [HE.out]; rfl, HB.out.trans (HBR.out.mono HB.out.size)⟩
      have HE := hid (e_inst HI0.out HPZ.out hx)
      clear hx HPZ HI0 HT
      go_wp2_with fail
      clear hlt hk m1 m2 lk
      go_loopw [45, 6, 7] (fun x _ _ wr => ∃ k : Nat, x = .int .i64 k ∧ k ≤ e.insts.length ∧ Hid (engC e = firstNZ (instC e) (e.insts.drop k)) ∧ Hid (Below w0.heap.size w0 wr)) (fun x _ _ _ => e.insts.length - (intOf x).toNat)
      case atStart => exact ⟨0, rfl, Nat.zero_le _, HE, HBR⟩
      case round =>
        clear HBR HE
        obtain ⟨k, rfl, hk, HE, HBR⟩ := hrel
        have hk1 := (HBR.out.block _ (Ch.blk_lt HK.out)).trans HK.out
        by_cases hlt : k < e.insts.length
        · have t1 : (k : Int) < (e.insts.length : Int) := by omega
          have m0 := Ch.blk_cell hk1 0
          have m1 := Ch.blk_cell hk1 1
          have m2 := Ch.blk_cell hk1 2
          have lk := Ch.blk_lt hk1
          replace m0 : wr.cell? ⟨w.heap.size, 0, none⟩ = some (.slice a1 e.procs.length k1) := m0
          replace m1 : wr.cell? ⟨w.heap.size, 1, none⟩ = some (.slice a2 e.insts.length k2) := m1
          replace m2 : wr.cell? ⟨w.heap.size, 2, none⟩ = some (.int .i64 e.now) := m2
          have HC := hid (implInstFault e _ _ k wr HS0.out (HA.out.below HBR.out) (HR.out.below HBR.out HR.out.lt) hlt)
          clear hk1
          go_wp2_with fail
          refine HC.out.mono ?_
          rintro z w3 ⟨rfl, hb3⟩
          have HB3 := hid (HBR.out.trans (hb3.mono HBR.out.size))
          clear hb3 HC m0 m1 m2 lk
          by_cases hz : instC e e.insts[k] = 0
          · have HN : Hid (engC e = firstNZ (instC e) (e.insts.drop (k + 1))) := hid (by rw [HE.out, nz_next hlt hz])
            rw [hz]
            have b0 : ((0 : Int) != 0) = false := rfl
            clear hz HE
            go_wp2
            exact ⟨⟨k + 1, by simp, by omega, HN, HB3⟩, by simp [intOf]; omega⟩
          · have HN : Hid (engC e = instC e e.insts[k]) := hid (by rw [HE.out, nz_bad hlt hz])
            have b0 : (instC e e.insts[k] != 0) = true := bne_iff_ne.2 hz
            generalize instC e e.insts[k] = pc at *
            clear hz HE
            go_wp2
            go_ret
            exact ⟨by rw [HN.out]; rfl, HB.out.trans (HB3.out.mono HB.out.size)⟩
        · have HZ : Hid (engC e = 0) := hid (by rw [HE.out, nz_end (by omega)])
          clear HE hk1
          go_wp2
          go_ret
          exact ⟨by rw [HZ.out]; rfl, HB.out.trans (HBR.out.mono HB.out.size)⟩
end Eg
end Go.Proofs.YtccklgopcjilcaaGreatDoor
