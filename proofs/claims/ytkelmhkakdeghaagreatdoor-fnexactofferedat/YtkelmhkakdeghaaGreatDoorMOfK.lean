/- OfferedAt on both sides. Condition on the program's: the table of rules lies as its initialiser lays it. -/
import Derived.Test.YtkelmhkakdeghaaGreatDoorJOF44
import Derived.Test.YtkelmhkakdeghaaGreatDoorMOfM
namespace Go.Proofs.YtkelmhkakdeghaaGreatDoor
open Go.RowKit Go.Deep
set_option linter.unusedVariables false
set_option linter.unusedSimpArgs false
namespace Of
open Dk (DeskD deskC openT of_d inst_ok instD_eq implClaimsOn specFault)
open Cl (ClD)
open Eg (stepsD of_e)
open Pf (Rul)
open Ex (hid)
open St (old_cell)
open Ch (blk_cell blk_lt blk_free new_blk new_at)
theorem kr_grown {w w9 : World} {B O : Nat} {v x : Value} {xs : List ClD} {t : TypeId} (ho : COwn w B v xs) (hB : O < B) (hg : w.grownBy w9 v.ownBlock) (hk : w.heap[O]? = some (.cells #[.int .i64 0, x] t)) : w9.heap[O]? = some (.cells #[.int .i64 0, x] t) :=
  (hg.block O (blk_lt hk) (fun e => by have := (ho.lt e.symm).1; omega)).trans hk
set_option maxRecDepth 100000 in
set_option maxHeartbeats 4000000 in
theorem specWho (B P : Nat) (d : DeskD) (vp vi vc : Value) (i s : Int) (w : World) (hs : Dk.Small 1048576 d) (ha : Dk.At w B vp vi vc d) (hP : w.heap[P]? = some (.cells #[vp, vi, .int .i64 d.eng.now, vc] 53)) :
    Calls Tryz.prog 74 #[.pointer (some ⟨P, 0, none⟩), .int .i64 i, .int .i64 s] w fun z w' => z = .returned (.int .i64 (who d.claims i s)) ∧ w' = w := by
  obtain ⟨⟨a1, k1, rfl⟩, ⟨a2, k2, rfl⟩, a3, k3, rfl⟩ := ha.slices
  have hl3 := hs.claims
  have m3 := blk_cell hP 3
  replace m3 : w.cell? ⟨P, 3, none⟩ = some (.slice a3 d.claims.length k3) := m3
  have lP := blk_lt hP
  have HA := hid ha.claims
  obtain ⟨zz, hzz⟩ : ∃ zz, who d.claims i s = zz := ⟨_, rfl⟩
  rw [hzz]
  have HZ0 : Hid (zz = who (d.claims.drop 0) i s) := hid hzz.symm
  clear ha hP hzz hs
  go_enter Tryz.func74, Tryz.ntmps74
  go_wp2
  go_loopw [7] (fun x wr => ∃ k : Nat, x = .int .i64 k ∧ k ≤ d.claims.length ∧ Hid (zz = who (d.claims.drop k) i s) ∧ Hid (wr = w)) (fun x _ => d.claims.length - (intOf x).toNat)
  case atStart => exact ⟨0, rfl, Nat.zero_le _, HZ0, hid rfl⟩
  case round =>
    clear HZ0
    obtain ⟨k, rfl, hk, HZ, HW⟩ := hrel
    obtain rfl := HW.out.symm
    by_cases hlt : k < d.claims.length
    · obtain ⟨g, o, rfl, hg, c0, c1, c2⟩ := HA.out.at hlt
      have t1 : (k : Int) < (d.claims.length : Int) := by omega
      cases h1 : (d.claims[k].inst == i)
      · have HN := hid (HZ.out.trans (who_no hlt (show isAt d.claims[k] i s = false by unfold isAt; rw [h1]; rfl)))
        go_wp2
        exact ⟨⟨k + 1, by simp, by omega, HN, hid trivial⟩, by simp [intOf]; omega⟩
      cases h2 : (d.claims[k].step == s)
      · have HN := hid (HZ.out.trans (who_no hlt (show isAt d.claims[k] i s = false by unfold isAt; rw [h1, h2]; rfl)))
        go_wp2
        exact ⟨⟨k + 1, by simp, by omega, HN, hid trivial⟩, by simp [intOf]; omega⟩
      · have HN := hid (HZ.out.trans (who_yes hlt (show isAt d.claims[k] i s = true by unfold isAt; rw [h1, h2]; rfl)))
        go_wp2
        go_ret
        exact ⟨by rw [HN.out]; rfl, rfl⟩
    · have HN := hid (HZ.out.trans (who_end (by omega)))
      go_wp2
      go_ret
      exact ⟨by rw [HN.out]; rfl, rfl⟩
set_option maxRecDepth 100000 in
set_option maxHeartbeats 16000000 in
theorem implOfferedAt (d : DeskD) (vp vi vc : Value) (w : World) (hs : Dk.Small 1048576 d) (ha : Dk.At w 0 vp vi vc d) (hr : Rul w) :
    Calls Tryz.prog 31 #[.agg #[vp, vi, .int .i64 d.eng.now, vc]] w (OPost (deskC d) (offL d) w) := by
  obtain ⟨⟨a1, k1, rfl⟩, ⟨a2, k2, rfl⟩, a3, k3, rfl⟩ := ha.slices
  have hl3 := hs.claims
  have hl2 := hs.eng.insts.1
  obtain ⟨w0, e0⟩ : ∃ w0, w0 = (w.alloc (.cells #[.slice a1 d.eng.procs.length k1, .slice a2 d.eng.insts.length k2, .int .i64 d.eng.now, .slice a3 d.claims.length k3] 53)).alloc (.cells #[.int .i64 0, .slice none 0 0] 58) := ⟨_, rfl⟩
  have hb0 : Below w.heap.size w w0 := by rw [e0]; exact ((Below.refl _ w).alloc (Nat.le_refl _) _).alloc (by simp) _
  have hk0 : w0.heap[w.heap.size]? = some (.cells #[.slice a1 d.eng.procs.length k1, .slice a2 d.eng.insts.length k2, .int .i64 d.eng.now, .slice a3 d.claims.length k3] 53) := by rw [e0, Below.heap_alloc _ _ _ (by simp), new_blk]
  have hr0 : w0.heap[(w.heap.size + 1)]? = some (.cells #[.int .i64 0, .slice none 0 0] 58) := by rw [e0]; exact new_at (by simp) _
  have HA := hid ha
  have HS := hid hs
  have HE := hid (implClaimsOn d _ _ _ w0 hs (ha.below hb0) (hr.below hb0 hr.lt))
  obtain ⟨cc, hcc⟩ : ∃ cc, deskC d = cc := ⟨_, rfl⟩
  obtain ⟨xx, hxx⟩ : ∃ xx, offL d = xx := ⟨_, rfl⟩
  rw [hcc, hxx]
  have HCC := hid hcc
  have HXX := hid hxx
  have HB0 := hid hb0
  clear ha hb0 hs hcc hxx hr
  obtain ⟨i0, hi0, hz0, hz1, hz2⟩ := Ex.info_parts Cl.infoOne
  go_enter Tryz.func31, Tryz.ntmps31
  go_wp2_with fail
  rw [← e0]
  clear e0
  refine HE.out.mono ?_
  rintro z w1 ⟨hco, hb1⟩
  have HB1 := hid (HB0.out.trans (hb1.mono HB0.out.size))
  have HK1 : Hid (w1.heap[w.heap.size]? = some (.cells #[.slice a1 d.eng.procs.length k1, .slice a2 d.eng.insts.length k2, .int .i64 d.eng.now, .slice a3 d.claims.length k3] 53)) := hid ((hb1.block _ (blk_lt hk0)).trans hk0)
  have HR1 : Hid (w1.heap[(w.heap.size + 1)]? = some (.cells #[.int .i64 0, .slice none 0 0] 58)) := hid ((hb1.block _ (blk_lt hr0)).trans hr0)
  clear hb1 hk0 hr0 HE HB0
  rcases hco with ⟨hz, rfl⟩ | ⟨hz, M, rfl, hm, hM⟩
  · have HN : Hid (cc = deskC d ∧ xx = []) := hid ⟨HCC.out.symm, HXX.out.symm.trans (off_nil hz)⟩
    have b0 : (deskC d != 0) = true := bne_iff_ne.2 hz
    generalize deskC d = pc at *
    obtain ⟨n0, n1, nf, nl⟩ := two HR1.out
    have f0 := nf 0
    have f1 := nf 1
    clear nf
    clear hz
    go_wp2
    refine bodyPost_ret (v := .agg #[.int .i64 pc, .slice none 0 0]) (by simp [results, Tryz.results31, go_sem, n0, n1]) rfl ⟨⟨_, by rw [HN.out.1], by rw [HN.out.2]; exact COwn.nil _ _⟩, Ch.below2 HB1.out (by omega) _ _⟩
  have HM1 := hid hm
  clear hm hM
  have HZ := hid hz
  have HN : Hid (cc = 0 ∧ xx = instO d.eng d.claims d.eng.insts.length) := hid ⟨HCC.out.symm.trans hz, HXX.out.symm.trans (off_ok hz)⟩
  have HEC := hid (of_d hz).1
  have HIL := hid (of_e HEC.out).1
  have b0 : ((0 : Int) != 0) = false := rfl
  clear hz HCC HXX
  have m1 := blk_cell HK1.out 1
  replace m1 : w1.cell? ⟨w.heap.size, 1, none⟩ = some (.slice a2 d.eng.insts.length k2) := m1
  have lk := blk_lt HK1.out
  go_wp2_with fail
  clear m1 lk
  go_loopw [22, 5] (fun x y wr => ∃ (i : Nat) (v : Value), x = .int .i64 i ∧ y = v ∧ i ≤ d.eng.insts.length ∧ Hid (COwn wr w1.heap.size v (instO d.eng d.claims i)) ∧ Hid (Below w1.heap.size w1 wr)) (fun x _ _ => d.eng.insts.length - (intOf x).toNat)
  case atStart => exact ⟨0, _, rfl, rfl, Nat.zero_le _, hid (COwn.nil _ _), hid (Below.refl _ _)⟩
  case round =>
    obtain ⟨i, v, rfl, rfl, hi, HO, HBr⟩ := hrel
    obtain ⟨va, vk, hv⟩ := HO.out.slice
    subst hv
    have HBw := hid (HB1.out.trans (HBr.out.mono HB1.out.size))
    have hkr := (HBr.out.block _ (blk_lt HK1.out)).trans HK1.out
    by_cases hlt : i < d.eng.insts.length
    · have t1 : (i : Int) < (d.eng.insts.length : Int) := by omega
      have hio := inst_ok HEC.out hlt
      have m0 := blk_cell hkr 0
      replace m0 : wr.cell? ⟨w.heap.size, 0, none⟩ = some (.slice a1 d.eng.procs.length k1) := m0
      have m1 := blk_cell hkr 1
      replace m1 : wr.cell? ⟨w.heap.size, 1, none⟩ = some (.slice a2 d.eng.insts.length k2) := m1
      have m2 := blk_cell hkr 2
      replace m2 : wr.cell? ⟨w.heap.size, 2, none⟩ = some (.int .i64 d.eng.now) := m2
      have lk := blk_lt hkr
      have HS3 := hid (Eg.implStepsOf d.eng _ _ i 0 wr HS.out.eng (HA.out.below HBw.out).eng hlt hio.1)
      have hL : (stepsD d.eng d.eng.insts[i].proc).length = lenI d.eng i := by unfold lenI; rw [instD_eq hlt]
      have h24 := len_24 HEC.out hlt
      have hll := instO_len HEC.out d.claims i (by omega)
      have HI6 := HIL.out
      clear hkr hio
      go_wp2_with fail
      refine HS3.out.mono ?_
      rintro z w3 ⟨⟨v3, rfl, hv3⟩, hb3⟩
      obtain ⟨c3, d3, hv⟩ := hv3.slice
      rw [hL] at hv
      subst hv
      have HB3 := hid (HBr.out.trans (hb3.mono HBr.out.size))
      have HO3 : Hid (COwn w3 w1.heap.size (.slice va (instO d.eng d.claims i).length vk) (instO d.eng d.claims i ++ stepO d.eng d.claims i 0)) := hid (by show COwn _ _ _ (_ ++ []); rw [List.append_nil]; exact HO.out.below hb3)
      clear hv3 hb3 HS3 m0 m1 m2 lk hL HO HBw
      go_wp2_with fail
      go_loopw [30, 5] (fun x y wr => ∃ (s : Nat) (v : Value), x = .int .i64 s ∧ y = v ∧ s ≤ lenI d.eng i ∧ Hid (COwn wr w1.heap.size v (instO d.eng d.claims i ++ stepO d.eng d.claims i s)) ∧ Hid (Below w1.heap.size w1 wr)) (fun x _ _ => lenI d.eng i - (intOf x).toNat)
      case atStart => exact ⟨0, _, rfl, rfl, Nat.zero_le _, HO3, HB3⟩
      case round =>
        clear HO3 HB3 HBr
        obtain ⟨s, v, rfl, rfl, hsl, HO, HBq⟩ := hrel
        obtain ⟨xs, hxs⟩ : ∃ xs, Hid (xs = (instO d.eng d.claims i ++ stepO d.eng d.claims i s)) := ⟨_, hid rfl⟩
        rw [← hxs.out] at HO
        obtain ⟨va, vk, hv⟩ := HO.out.slice
        subst hv
        by_cases hls : s < lenI d.eng i
        · have t2 : (s : Int) < (lenI d.eng i : Int) := by omega
          have hstep : stepO d.eng d.claims i (s + 1) = stepO d.eng d.claims i s ++ if offB d.eng d.claims i s = true then [⟨i, s, 0⟩] else [] := rfl
          have hsl2 := stepO_len d.eng d.claims i s
          have hll2 : xs.length ≤ 24 * i + s := by rw [hxs.out, List.length_append]; omega
          have hkq := (HBq.out.block _ (blk_lt HK1.out)).trans HK1.out
          have m0 := blk_cell hkq 0
          replace m0 : wr.cell? ⟨w.heap.size, 0, none⟩ = some (.slice a1 d.eng.procs.length k1) := m0
          have m1 := blk_cell hkq 1
          replace m1 : wr.cell? ⟨w.heap.size, 1, none⟩ = some (.slice a2 d.eng.insts.length k2) := m1
          have m2 := blk_cell hkq 2
          replace m2 : wr.cell? ⟨w.heap.size, 2, none⟩ = some (.int .i64 d.eng.now) := m2
          have lk := blk_lt hkq
          have lq := HBq.out.size
          obtain ⟨Q, eQ⟩ : ∃ Q, Q = wr.heap.size := ⟨_, rfl⟩
          obtain ⟨w2, e2⟩ : ∃ w2, w2 = (wr.alloc (.cells #[.int .i64 (i : Int), .int .i64 (s : Int)] 129)) := ⟨_, rfl⟩
          have hb2 : Below wr.heap.size wr w2 := by rw [e2]; exact (Below.refl _ wr).alloc (Nat.le_refl _) _
          have HB2 := hid (HBq.out.trans (hb2.mono lq))
          have HQ2 : Hid (w2.heap[Q]? = some (.cells #[.int .i64 (i : Int), .int .i64 (s : Int)] 129)) := hid (by rw [e2, eQ]; exact new_blk _ _)
          have HO2 := hid (HO.out.below hb2)
          have HOp := hid (Dk.implIsOpen d.eng _ _ i (s : Int) 0 w2 HS.out.eng (HA.out.below (HB1.out.trans (HB2.out.mono HB1.out.size))).eng hlt HEC.out)
          clear hb2 hkq HO
          have EQ := hid eQ
          clear eQ
          go_wp2_with fail
          rw [← e2, ← EQ.out]
          clear e2 m0 m1 m2 lk lq EQ
          refine HOp.out.mono ?_
          rintro z w4 ⟨rfl, hb4⟩
          have HB4 := hid (HB2.out.trans (hb4.mono HB2.out.size))
          have HO4 := hid (HO2.out.below hb4)
          have hq4 := (hb4.block _ (blk_lt HQ2.out)).trans HQ2.out
          have HM4 := hid (HM1.out.keep (HB4.out.block M HM1.out.lt))
          clear hb4 HOp HO2 HB2 HQ2
          cases ho : openT d.eng (i : Int) (s : Int)
          · have HT : Hid (instO d.eng d.claims i ++ stepO d.eng d.claims i (s + 1) = xs) := hid (by rw [hstep, show offB d.eng d.claims i s = false by unfold offB; rw [ho]; rfl, if_neg (by simp), List.append_nil, hxs.out])
            clear ho hstep
            go_wp2
            exact ⟨⟨s + 1, _, by simp, rfl, by omega, hid (by rw [HT.out]; exact HO4.out), HB4⟩, by simp [intOf]; omega⟩
          have hrg : Mp.Rg ((i : Int), (s : Int)) := ⟨⟨by simp, by show (i : Int) < _; omega⟩, by simp, by show (s : Int) < _; omega⟩
          have hlk : (Instr.lookup 120 (.map (some M)) (.agg #[.int .i64 (i : Int), .int .i64 (s : Int)]) false).run Tryz.prog w4 = .ok (.int .i64 (who d.claims i s)) w4 := by
            rcases who_or d.claims i s with h1 | ⟨h1, h2⟩
            · exact Mp.At.get HM4.out h1
            · rw [h2]; exact Mp.At.getno HM4.out hrg h1
          have y0 := blk_cell hq4 0
          have y1 := blk_cell hq4 1
          have yl := blk_lt hq4
          replace y0 : w4.cell? ⟨Q, 0, none⟩ = some (.int .i64 (i : Int)) := y0
          replace y1 : w4.cell? ⟨Q, 1, none⟩ = some (.int .i64 (s : Int)) := y1
          clear hq4 hrg HM4
          cases hw : (who d.claims (i : Int) (s : Int) == 0)
          · have HT : Hid (instO d.eng d.claims i ++ stepO d.eng d.claims i (s + 1) = xs) := hid (by rw [hstep, show offB d.eng d.claims i s = false by unfold offB; rw [ho, hw]; rfl, if_neg (by simp), List.append_nil, hxs.out])
            clear ho hstep
            go_wp2
            exact ⟨⟨s + 1, _, by simp, rfl, by omega, hid (by rw [HT.out]; exact HO4.out), HB4⟩, by simp [intOf]; omega⟩
          have HT : Hid (instO d.eng d.claims i ++ stepO d.eng d.claims i (s + 1) = xs ++ [⟨i, s, 0⟩]) := hid (by rw [hstep, show offB d.eng d.claims i s = true by unfold offB; rw [ho, hw]; rfl, if_pos rfl, hxs.out, List.append_assoc])
          have hb5 : Below w4.heap.size w4 (w4.alloc (.cells #[.int .i64 (i : Int), .int .i64 (s : Int), .int .i64 0] 127)) := (Below.refl _ w4).alloc (Nat.le_refl _) _
          have HB5 := hid (HB4.out.trans (hb5.mono HB4.out.size))
          have HO5 := hid (HO4.out.below hb5)
          have HROW : Hid (Ap.Row (w4.alloc (.cells #[.int .i64 (i : Int), .int .i64 (s : Int), .int .i64 0] 127)) 3 (.slice (some ⟨w4.heap.size, 0, none⟩) 1 1) 1 (cv ⟨i, s, 0⟩)) := hid (row_three w4 rfl ⟨i, s, 0⟩ _)
          have l4 := HB4.out.size
          clear hb5 ho hstep HO4 HB4
          go_wp2_with (at_builtin; go_must (refine Ap.wpList_any _ rfl _ _ 51 rfl w1.heap.size 127 i0 (.agg #[.int .i64 0, .int .i64 0, .int .i64 0]) 3 24 Tryz.underlying51 hi0 hz0 hz1 hz2 rfl (by decide) _ _ _ rfl HO5.out _ _ _ rfl HROW.out (by unfold maxLen; omega) (by omega) (by simp; omega) _ rfl ?_); intro a9 c9 w9 hown9 hg9 hat9)
          have HO9 : Hid (COwn w9 w1.heap.size (.slice a9 (xs.length + 1) c9) (xs ++ [⟨i, s, 0⟩])) := hid (own_snoc hown9)
          have HB9 : Hid (Below w1.heap.size w1 w9) := hid (HB5.out.grown hg9 (by simp; omega) (fun b e => (HO5.out.lt e).1))
          clear hown9 hg9 hat9 y0 y1 yl hlk hw l4
          go_wp2
          exact ⟨⟨s + 1, _, by simp, rfl, by omega, hid (by rw [HT.out]; exact HO9.out), HB9⟩, by simp [intOf]; omega⟩
        · obtain rfl : s = lenI d.eng i := by omega
          have HT : Hid (instO d.eng d.claims (i + 1) = instO d.eng d.claims i ++ stepO d.eng d.claims i (lenI d.eng i)) := hid rfl
          go_wp2
          exact ⟨⟨i + 1, _, by simp, rfl, by omega, hid (by rw [HT.out, ← hxs.out]; exact HO.out), HBq⟩, by simp [intOf]; omega⟩
    · obtain rfl : i = d.eng.insts.length := by omega
      have HRr := hid ((HBr.out.block _ (blk_lt HR1.out)).trans HR1.out)
      obtain ⟨n0, n1, nf, nl⟩ := two HRr.out
      have f0 := nf 0
      have f1 := nf 1
      clear nf
      clear hkr
      go_wp2
      refine bodyPost_ret (v := .agg #[.int .i64 0, .slice va (instO d.eng d.claims d.eng.insts.length).length vk]) (by simp [results, Tryz.results31, go_sem, n0, n1]) rfl ⟨⟨_, by rw [HN.out.1], by rw [HN.out.2]; exact (HO.out.kept (fun b e => by have := (HO.out.lt e).1; have := blk_lt HR1.out; repeat rw [Below.heap_setCell _ _ _ _ (by dsimp only; omega)])).mono HB1.out.size⟩, Ch.below2 HBw.out (by omega) _ _⟩
set_option maxRecDepth 100000 in
set_option maxHeartbeats 16000000 in
theorem specOfferedAt (B : Nat) (d : DeskD) (vp vi vc : Value) (w : World) (hs : Dk.Small 1048576 d) (ha : Dk.At w B vp vi vc d) :
    Calls Tryz.prog 30 #[.agg #[vp, vi, .int .i64 d.eng.now, vc]] w (OPost (deskC d) (offL d) w) := by
  obtain ⟨⟨a1, k1, rfl⟩, ⟨a2, k2, rfl⟩, a3, k3, rfl⟩ := ha.slices
  have hl3 := hs.claims
  have hl2 := hs.eng.insts.1
  obtain ⟨w0, e0⟩ : ∃ w0, w0 = (w.alloc (.cells #[.slice a1 d.eng.procs.length k1, .slice a2 d.eng.insts.length k2, .int .i64 d.eng.now, .slice a3 d.claims.length k3] 53)).alloc (.cells #[.int .i64 0, .slice none 0 0] 58) := ⟨_, rfl⟩
  have hb0 : Below w.heap.size w w0 := by rw [e0]; exact ((Below.refl _ w).alloc (Nat.le_refl _) _).alloc (by simp) _
  have hk0 : w0.heap[w.heap.size]? = some (.cells #[.slice a1 d.eng.procs.length k1, .slice a2 d.eng.insts.length k2, .int .i64 d.eng.now, .slice a3 d.claims.length k3] 53) := by rw [e0, Below.heap_alloc _ _ _ (by simp), new_blk]
  have hr0 : w0.heap[(w.heap.size + 1)]? = some (.cells #[.int .i64 0, .slice none 0 0] 58) := by rw [e0]; exact new_at (by simp) _
  have HA := hid ha
  have HS := hid hs
  have HE := hid (specFault B w.heap.size d _ _ _ w0 hs (ha.below hb0) hk0)
  obtain ⟨cc, hcc⟩ : ∃ cc, deskC d = cc := ⟨_, rfl⟩
  obtain ⟨xx, hxx⟩ : ∃ xx, offL d = xx := ⟨_, rfl⟩
  rw [hcc, hxx]
  have HCC := hid hcc
  have HXX := hid hxx
  have HB0 := hid hb0
  clear ha hb0 hs hcc hxx
  obtain ⟨i0, hi0, hz0, hz1, hz2⟩ := Ex.info_parts Cl.infoOne
  go_enter Tryz.func30, Tryz.ntmps30
  go_wp2_with fail
  rw [← e0]
  clear e0
  refine HE.out.mono ?_
  rintro z w1 ⟨rfl, hb1⟩
  have HB1 := hid (HB0.out.trans (hb1.mono HB0.out.size))
  have HK1 : Hid (w1.heap[w.heap.size]? = some (.cells #[.slice a1 d.eng.procs.length k1, .slice a2 d.eng.insts.length k2, .int .i64 d.eng.now, .slice a3 d.claims.length k3] 53)) := hid ((hb1.block _ (blk_lt hk0)).trans hk0)
  have HR1 : Hid (w1.heap[(w.heap.size + 1)]? = some (.cells #[.int .i64 0, .slice none 0 0] 58)) := hid ((hb1.block _ (blk_lt hr0)).trans hr0)
  clear hb1 hk0 hr0 HE HB0
  by_cases hz : deskC d = 0
  case neg =>
    have HN : Hid (cc = deskC d ∧ xx = []) := hid ⟨HCC.out.symm, HXX.out.symm.trans (off_nil hz)⟩
    have b0 : (deskC d != 0) = true := bne_iff_ne.2 hz
    generalize deskC d = pc at *
    obtain ⟨n0, n1, nf, nl⟩ := two HR1.out
    have f0 := nf 0
    have f1 := nf 1
    clear nf
    clear hz
    go_wp2
    refine bodyPost_ret (v := .agg #[.int .i64 pc, .slice none 0 0]) (by simp [results, Tryz.results30, go_sem, n0, n1]) rfl ⟨⟨_, by rw [HN.out.1], by rw [HN.out.2]; exact COwn.nil _ _⟩, Ch.below2 HB1.out (by omega) _ _⟩
  rw [hz]
  have HZ := hid hz
  have HN : Hid (cc = 0 ∧ xx = instO d.eng d.claims d.eng.insts.length) := hid ⟨HCC.out.symm.trans hz, HXX.out.symm.trans (off_ok hz)⟩
  have HEC := hid (of_d hz).1
  have HIL := hid (of_e HEC.out).1
  have b0 : ((0 : Int) != 0) = false := rfl
  clear hz HCC HXX
  have m1 := blk_cell HK1.out 1
  replace m1 : w1.cell? ⟨w.heap.size, 1, none⟩ = some (.slice a2 d.eng.insts.length k2) := m1
  have lk := blk_lt HK1.out
  obtain ⟨O, eO⟩ : ∃ O, O = w1.heap.size := ⟨_, rfl⟩
  obtain ⟨wO, eW⟩ : ∃ wO, wO = w1.alloc (.cells #[.int .i64 0, .slice none 0 0] 58) := ⟨_, rfl⟩
  have hbO : Below w1.heap.size w1 wO := by rw [eW]; exact (Below.refl _ w1).alloc (Nat.le_refl _) _
  have HKO : Hid (wO.heap[O]? = some (.cells #[.int .i64 0, .slice none 0 0] 58)) := hid (by rw [eW, eO]; exact new_blk _ _)
  have HBO := hid hbO
  have HO1 : Hid (w1.heap.size ≤ O) := hid (Nat.le_of_eq eO.symm)
  have HOz : Hid (wO.heap.size = O + 1) := hid (by rw [eW, eO]; simp)
  clear hbO
  go_wp2_with fail
  rw [← eW, ← eO]
  clear eW eO m1 lk
  go_loopw [5] (fun x wr => ∃ (i : Nat) (v : Value), x = .int .i64 i ∧ i ≤ d.eng.insts.length ∧ Hid (wr.heap[O]? = some (.cells #[.int .i64 0, v] 58)) ∧ Hid (COwn wr (O + 1) v (instO d.eng d.claims i)) ∧ Hid (Below w1.heap.size w1 wr) ∧ Hid (O + 1 ≤ wr.heap.size)) (fun x _ => d.eng.insts.length - (intOf x).toNat)
  case atStart => exact ⟨0, _, rfl, Nat.zero_le _, HKO, hid (COwn.nil _ _), HBO, hid (Nat.le_of_eq HOz.out.symm)⟩
  case round =>
    clear HKO HBO HOz
    obtain ⟨i, v, rfl, hi, HKO, HO, HBr, HOz⟩ := hrel
    obtain ⟨va, vk, hv⟩ := HO.out.slice
    subst hv
    have HBw := hid (HB1.out.trans (HBr.out.mono HB1.out.size))
    have hkr := (HBr.out.block _ (blk_lt HK1.out)).trans HK1.out
    have m1 := blk_cell hkr 1
    replace m1 : wr.cell? ⟨w.heap.size, 1, none⟩ = some (.slice a2 d.eng.insts.length k2) := m1
    have lk := blk_lt hkr
    clear hkr
    by_cases hlt : i < d.eng.insts.length
    · have t1 : (i : Int) < (d.eng.insts.length : Int) := by omega
      have h24 := len_24 HEC.out hlt
      have hll := instO_len HEC.out d.claims i (by omega)
      have HI6 := HIL.out
      have HO3 : Hid (COwn wr (O + 1) (.slice va (instO d.eng d.claims i).length vk) (instO d.eng d.claims i ++ stepO d.eng d.claims i 0)) := hid (by show COwn _ _ _ (_ ++ []); rw [List.append_nil]; exact HO.out)
      clear HO HBw
      go_wp2_with fail
      clear m1 lk
      go_loopw [6] (fun x wr => ∃ (s : Nat) (v : Value), x = .int .i64 s ∧ s ≤ 24 ∧ Hid (wr.heap[O]? = some (.cells #[.int .i64 0, v] 58)) ∧ Hid (COwn wr (O + 1) v (instO d.eng d.claims i ++ stepO d.eng d.claims i s)) ∧ Hid (Below w1.heap.size w1 wr) ∧ Hid (O + 1 ≤ wr.heap.size)) (fun x _ => 24 - (intOf x).toNat)
      case atStart => exact ⟨0, _, rfl, Nat.zero_le _, HKO, HO3, HBr, HOz⟩
      case round =>
        clear HO3 HBr HKO HOz
        obtain ⟨s, v, rfl, hsl, HKO, HO, HBq, HOz⟩ := hrel
        obtain ⟨xs, hxs⟩ : ∃ xs, Hid (xs = (instO d.eng d.claims i ++ stepO d.eng d.claims i s)) := ⟨_, hid rfl⟩
        rw [← hxs.out] at HO
        obtain ⟨va, vk, hv⟩ := HO.out.slice
        subst hv
        by_cases hls : s < 24
        · have t2 : (s : Int) < 24 := by omega
          have hstep : stepO d.eng d.claims i (s + 1) = stepO d.eng d.claims i s ++ if offB d.eng d.claims i s = true then [⟨i, s, 0⟩] else [] := rfl
          have hsl2 := stepO_len d.eng d.claims i s
          have hll2 : xs.length ≤ 24 * i + s := by rw [hxs.out, List.length_append]; omega
          have HKq := hid ((HBq.out.block _ (blk_lt HK1.out)).trans HK1.out)
          have HBx := hid (HB1.out.trans (HBq.out.mono HB1.out.size))
          have HOp := hid (Dk.specOpen B w.heap.size d.eng _ _ i (s : Int) wr HS.out.eng (HA.out.below HBx.out).eng ⟨blk_lt HKq.out, blk_cell HKq.out 0, blk_cell HKq.out 1, blk_cell HKq.out 2⟩ hlt HEC.out)
          go_wp2_with fail
          refine HOp.out.mono ?_
          rintro z w4 ⟨rfl, n4, e4⟩
          have HB4 : Hid (Below w1.heap.size w1 w4) := hid (by rw [e4]; exact Nd.below_drewN HBq.out n4)
          have HK4 : Hid (w4.heap[O]? = some (.cells #[.int .i64 0, .slice va xs.length vk] 58)) := hid (by rw [e4]; exact HKO.out)
          have HO4 : Hid (COwn w4 (O + 1) (.slice va xs.length vk) xs) := hid (by rw [e4]; exact HO.out.below (Nd.below_drewN (Below.refl _ _) n4))
          have HZ4 : Hid (O + 1 ≤ w4.heap.size) := hid (by rw [e4]; exact HOz.out)
          have HD4 : Hid (w4.heap[w.heap.size]? = some (.cells #[.slice a1 d.eng.procs.length k1, .slice a2 d.eng.insts.length k2, .int .i64 d.eng.now, .slice a3 d.claims.length k3] 53)) := hid (by rw [e4]; exact HKq.out)
          clear e4 HOp HKO HO HBq HOz HKq HBx
          cases ho : openT d.eng (i : Int) (s : Int)
          · have HT : Hid (instO d.eng d.claims i ++ stepO d.eng d.claims i (s + 1) = xs) := hid (by rw [hstep, show offB d.eng d.claims i s = false by unfold offB; rw [ho]; rfl, if_neg (by simp), List.append_nil, hxs.out])
            clear ho hstep
            go_wp2
            exact ⟨⟨s + 1, _, by simp, by omega, HK4, hid (by rw [HT.out]; exact HO4.out), HB4, HZ4⟩, by simp [intOf]; omega⟩
          have HW := hid (specWho B w.heap.size d _ _ _ (i : Int) (s : Int) w4 HS.out (HA.out.below (HB1.out.trans (HB4.out.mono HB1.out.size))) HD4.out)
          go_wp2_with fail
          refine HW.out.mono ?_
          rintro z w5 ⟨rfl, hw5⟩
          replace hw5 := hw5.symm
          subst hw5
          clear HW
          cases hw : (who d.claims (i : Int) (s : Int) == 0)
          · have HT : Hid (instO d.eng d.claims i ++ stepO d.eng d.claims i (s + 1) = xs) := hid (by rw [hstep, show offB d.eng d.claims i s = false by unfold offB; rw [ho, hw]; rfl, if_neg (by simp), List.append_nil, hxs.out])
            clear ho hstep
            go_wp2
            exact ⟨⟨s + 1, _, by simp, by omega, HK4, hid (by rw [HT.out]; exact HO4.out), HB4, HZ4⟩, by simp [intOf]; omega⟩
          have HT : Hid (instO d.eng d.claims i ++ stepO d.eng d.claims i (s + 1) = xs ++ [⟨i, s, 0⟩]) := hid (by rw [hstep, show offB d.eng d.claims i s = true by unfold offB; rw [ho, hw]; rfl, if_pos rfl, hxs.out, List.append_assoc])
          have hb5 : Below w4.heap.size w4 (w4.alloc (.cells #[.int .i64 (i : Int), .int .i64 (s : Int), .int .i64 0] 127)) := (Below.refl _ w4).alloc (Nat.le_refl _) _
          have HB5 := hid (HB4.out.trans (hb5.mono HB4.out.size))
          have HO5 := hid (HO4.out.below hb5)
          have HK5 : Hid ((w4.alloc (.cells #[.int .i64 (i : Int), .int .i64 (s : Int), .int .i64 0] 127)).heap[O]? = some (.cells #[.int .i64 0, .slice va xs.length vk] 58)) := hid ((hb5.block _ (blk_lt HK4.out)).trans HK4.out)
          have HROW : Hid (Ap.Row (w4.alloc (.cells #[.int .i64 (i : Int), .int .i64 (s : Int), .int .i64 0] 127)) 3 (.slice (some ⟨w4.heap.size, 0, none⟩) 1 1) 1 (cv ⟨i, s, 0⟩)) := hid (row_three w4 rfl ⟨i, s, 0⟩ _)
          have l4 := HB4.out.size
          have lz := HZ4.out
          have u1 : w4.cell? ⟨O, 1, none⟩ = some (.slice va xs.length vk) := blk_cell HK4.out 1
          have ul := blk_lt HK4.out
          clear hb5 ho hstep HO4 HB4 HK4
          go_wp2_with (at_builtin; go_must (refine Ap.wpList_any _ rfl _ _ 51 rfl (O + 1) 127 i0 (.agg #[.int .i64 0, .int .i64 0, .int .i64 0]) 3 24 Tryz.underlying51 hi0 hz0 hz1 hz2 rfl (by decide) _ _ _ rfl HO5.out _ _ _ rfl HROW.out (by unfold maxLen; omega) (by omega) (by simp; omega) _ rfl ?_); intro a9 c9 w9 hown9 hg9 hat9; have HR9 := hid (kr_grown HO5.out (Nat.lt_succ_self _) hg9 HK5.out); have x1 : w9.cell? ⟨O, 1, none⟩ = some (.slice va xs.length vk) := blk_cell HR9.out 1; have x2 := blk_free HR9.out 1; have x3 := blk_lt HR9.out)
          have HO9 : Hid (COwn w9 (O + 1) (.slice a9 (xs.length + 1) c9) (xs ++ [⟨i, s, 0⟩])) := hid (own_snoc hown9)
          have HB9 : Hid (Below w1.heap.size w1 w9) := hid (HB5.out.grown hg9 (by simp; omega) (fun b e => by have := (HO5.out.lt e).1; have := HO1.out; omega))
          have HZ9 : Hid (O + 1 ≤ w9.heap.size) := hid (by have := hg9.size; simp at this; omega)
          clear hown9 hg9 hat9 hw u1 ul
          have hks : ∀ b, b ≠ O → (w9.setCell ⟨O, 1, none⟩ (.slice a9 (xs.length + 1) c9)).heap[b]? = w9.heap[b]? := fun b hb => Below.heap_setCell _ _ _ _ (by dsimp only; omega)
          have HRs : Hid ((w9.setCell ⟨O, 1, none⟩ (.slice a9 (xs.length + 1) c9)).heap[O]? = some (.cells #[.int .i64 0, .slice a9 (xs.length + 1) c9] 58)) := hid (by have := Ch.blk_set (i := 1) HR9.out (.slice a9 (xs.length + 1) c9); simpa using this)
          have HOs : Hid (COwn (w9.setCell ⟨O, 1, none⟩ (.slice a9 (xs.length + 1) c9)) (O + 1) (.slice a9 (xs.length + 1) c9) (xs ++ [⟨i, s, 0⟩])) := hid (HO9.out.kept (fun b e => hks b (by have := (HO9.out.lt e).1; omega)))
          have HBs : Hid (Below w1.heap.size w1 (w9.setCell ⟨O, 1, none⟩ (.slice a9 (xs.length + 1) c9))) := hid (St.setB HB9.out HO1.out _)
          have HZs : Hid (O + 1 ≤ (w9.setCell ⟨O, 1, none⟩ (.slice a9 (xs.length + 1) c9)).heap.size) := hid (by have := HZ9.out; simpa [World.setCell] using this)
          clear hks HR9 HO9 HB9 HZ9 x1 x2 x3
          exact ⟨⟨s + 1, _, by simp, by omega, HRs, hid (by rw [HT.out]; exact HOs.out), HBs, HZs⟩, by simp [intOf]; omega⟩
        · obtain rfl : s = 24 := by omega
          have HT : Hid (instO d.eng d.claims (i + 1) = instO d.eng d.claims i ++ stepO d.eng d.claims i 24) := hid (by rw [stepO_more h24]; rfl)
          go_wp2
          exact ⟨⟨i + 1, _, by simp, by omega, HKO, hid (by rw [HT.out, ← hxs.out]; exact HO.out), HBq, HOz⟩, by simp [intOf]; omega⟩
    · obtain rfl : i = d.eng.insts.length := by omega
      have HRr := hid ((HBr.out.block _ (blk_lt HR1.out)).trans HR1.out)
      obtain ⟨n0, n1, nf, nl⟩ := two HRr.out
      have f0 := nf 0
      have f1 := nf 1
      clear nf
      have u0 : wr.cell? ⟨O, 0, none⟩ = some (.int .i64 0) := blk_cell HKO.out 0
      have u1 := blk_cell HKO.out 1
      replace u1 : wr.cell? ⟨O, 1, none⟩ = some (.slice va (instO d.eng d.claims d.eng.insts.length).length vk) := u1
      have u2 := blk_lt HKO.out
      go_wp2
      refine bodyPost_ret (v := .agg #[.int .i64 0, .slice va (instO d.eng d.claims d.eng.insts.length).length vk]) (by simp [results, Tryz.results30, go_sem, n0, n1]) rfl ⟨⟨_, by rw [HN.out.1], by rw [HN.out.2]; exact (HO.out.kept (fun b e => by have := (HO.out.lt e).1; have := blk_lt HR1.out; have := HO1.out; repeat rw [Below.heap_setCell _ _ _ _ (by dsimp only; omega)])).mono (by have := HB1.out.size; have := HO1.out; omega)⟩, Ch.below2 HBw.out (by omega) _ _⟩
end Of
end Go.Proofs.YtkelmhkakdeghaaGreatDoor
