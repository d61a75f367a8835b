/- Whether two engines are the same: the specification's SameEngines. -/
import Derived.Test.YtpninlangjfcfaaEsI
namespace Go.Proofs.Ytpninlangjfcfaa
open Go.RowKit Go.Deep
set_option linter.unusedVariables false
namespace En
open St (StepD listEq listEq_step listEq_end listEq_len stepEq bne_int)
open Nd (below_drewN)
open Ei (InstD)
open Ex (hid)
open Ch (blk_cell new_blk new_at)
set_option maxRecDepth 100000 in
set_option maxHeartbeats 16000000 in
theorem specSame (B1 B2 : Nat) (a b : EngD) (vp vi up ui : Value) (w : World) (hl : Small 1048576 a) (hm : Small 1048576 b) (h1 : At w B1 vp vi a) (h2 : At w B2 up ui b) :
    Calls Try.prog 11 #[.agg #[vp, vi, .int .i64 a.now], .agg #[up, ui, .int .i64 b.now]] w fun e w' => e = .returned (.bool (same a b)) ∧ Below w.heap.size w w' := by
  obtain ⟨a1, k1, rfl⟩ := h1.procs.slice
  obtain ⟨a2, k2, rfl⟩ := h1.insts.slice
  obtain ⟨b1, l1, rfl⟩ := h2.procs.slice
  obtain ⟨b2, l2, rfl⟩ := h2.insts.slice
  have hp1 := hl.procs.1
  have hp2 := hm.procs.1
  have hi1 := hl.insts.1
  have hi2 := hm.insts.1
  have HB : Hid (Below w.heap.size w ((w.alloc (.cells #[.slice a1 a.procs.length k1, .slice a2 a.insts.length k2, .int .i64 a.now] 34)).alloc (.cells #[.slice b1 b.procs.length l1, .slice b2 b.insts.length l2, .int .i64 b.now] 34))) := hid (((Below.refl _ w).alloc (Nat.le_refl _) _).alloc (by simp) _)
  by_cases ep : a.procs.length = b.procs.length
  case neg =>
    have hb : ((a.procs.length : Int) != (b.procs.length : Int)) = true := bne_iff_ne.2 (fun e => ep (by omega))
    have HE := hid (show same a b = false by simp [same, listEq_len (f := listEq stepEq) ep])
    generalize same a b = z at *
    clear ep h1 h2 hl hm
    go_enter Try.func11, Try.ntmps11
    go_wp2
    go_ret
    exact ⟨by rw [HE.out]; rfl, HB.out⟩
  have hbp : ((a.procs.length : Int) != (b.procs.length : Int)) = false := by simp [ep]
  by_cases ei : a.insts.length = b.insts.length
  case neg =>
    have hb : ((a.insts.length : Int) != (b.insts.length : Int)) = true := bne_iff_ne.2 (fun e => ei (by omega))
    have HE := hid (show same a b = false by simp [same, listEq_len (f := instEq) ei])
    generalize same a b = z at *
    clear ei ep h1 h2 hl hm
    go_enter Try.func11, Try.ntmps11
    go_wp2
    go_ret
    exact ⟨by rw [HE.out]; rfl, HB.out⟩
  have hbi : ((a.insts.length : Int) != (b.insts.length : Int)) = false := by simp [ei]
  cases hn : (a.now == b.now)
  · have hb := bne_int hn
    simp only [Bool.not_false] at hb
    have HE := hid (show same a b = false by simp [same, hn])
    generalize same a b = z at *
    clear ei ep h1 h2 hl hm hn
    go_enter Try.func11, Try.ntmps11
    go_wp2
    go_ret
    exact ⟨by rw [HE.out]; rfl, HB.out⟩
  have hb := bne_int hn
  simp only [Bool.not_true] at hb
  have HS0 := hid (show same a b = (listEq (listEq stepEq) a.procs b.procs && listEq instEq a.insts b.insts) by simp [same, hn])
  generalize same a b = z at *
  have HEP := hid ep
  have HEI := hid ei
  have HL := hid hl
  have HM := hid hm
  have H1 := hid (h1.below HB.out)
  have H2 := hid (h2.below HB.out)
  have KA : Hid (((w.alloc (.cells #[.slice a1 a.procs.length k1, .slice a2 a.insts.length k2, .int .i64 a.now] 34)).alloc (.cells #[.slice b1 b.procs.length l1, .slice b2 b.insts.length l2, .int .i64 b.now] 34)).heap[w.heap.size]? = some (.cells #[.slice a1 a.procs.length k1, .slice a2 a.insts.length k2, .int .i64 a.now] 34)) := hid (by rw [Below.heap_alloc _ _ _ (by simp), new_blk])
  have KB : Hid (((w.alloc (.cells #[.slice a1 a.procs.length k1, .slice a2 a.insts.length k2, .int .i64 a.now] 34)).alloc (.cells #[.slice b1 b.procs.length l1, .slice b2 b.insts.length l2, .int .i64 b.now] 34)).heap[w.heap.size + 1]? = some (.cells #[.slice b1 b.procs.length l1, .slice b2 b.insts.length l2, .int .i64 b.now] 34)) := hid (new_at (by simp) _)
  clear hn ep ei hl hm h1 h2
  go_enter Try.func11, Try.ntmps11
  go_wp2_with fail
  clear hb hbp hbi
  generalize (w.alloc (.cells #[.slice a1 a.procs.length k1, .slice a2 a.insts.length k2, .int .i64 a.now] 34)).alloc (.cells #[.slice b1 b.procs.length l1, .slice b2 b.insts.length l2, .int .i64 b.now] 34) = w0 at *
  go_loopw [5] (fun i wr => ∃ k : Nat, i = .int .i64 k ∧ k ≤ a.procs.length ∧ Hid (listEq (listEq stepEq) a.procs b.procs = listEq (listEq stepEq) (a.procs.drop k) (b.procs.drop k)) ∧ Hid (Below w0.heap.size w0 wr)) (fun i _ => a.procs.length - (intOf i).toNat)
  case atStart => exact ⟨0, rfl, Nat.zero_le _, rfl, hid (Below.refl _ _)⟩
  case round =>
    obtain ⟨k, rfl, hk, HS, HR⟩ := hrel
    have hA := (HR.out.block _ (Ch.blk_lt KA.out)).trans KA.out
    have hB := (HR.out.block _ (Ch.blk_lt KB.out)).trans KB.out
    have e0 : wr.cell? ⟨w.heap.size, 0, none⟩ = some (.slice a1 a.procs.length k1) := by rw [blk_cell hA]; rfl
    have f0 : wr.cell? ⟨w.heap.size + 1, 0, none⟩ = some (.slice b1 b.procs.length l1) := by rw [blk_cell hB]; rfl
    have lA := Ch.blk_lt hA
    have lB := Ch.blk_lt hB
    clear hA hB
    by_cases hlt : k < a.procs.length
    · have hlt2 : k < b.procs.length := by rw [← HEP.out]; exact hlt
      obtain ⟨g1, o1, x1, rfl, hg1, p0, hc1⟩ := (H1.out.below HR.out).procs.at hlt
      obtain ⟨g2, o2, x2, rfl, hg2, q0, hc2⟩ := (H2.out.below HR.out).procs.at hlt2
      have t1 : (k : Int) < (a.procs.length : Int) := by omega
      have t2 : (k : Int) < (b.procs.length : Int) := by omega
      have HST := hid (listEq_step (f := listEq stepEq) hlt hlt2)
      have HC : Hid (∀ w1 : World, Below wr.heap.size wr w1 → Calls Try.prog 20 #[x1, x2] w1 fun e w' => e = .returned (.bool (listEq stepEq a.procs[k] b.procs[k])) ∧ Below w1.heap.size w1 w') := hid (fun w1 h => St.specSame B1 B2 _ _ x1 x2 w1 (HL.out.procs.at hlt) (HM.out.procs.at hlt2) (hc1.below h) (hc2.below h))
      obtain ⟨a3, c3, rfl⟩ := hc1.slice
      obtain ⟨a4, c4, rfl⟩ := hc2.slice
      clear hc1 hc2
      go_wp2
      refine wp_region_held_drew (S := fun wx => Below wr.heap.size wr wx) (by kernel_rfl) (Below.refl wr.heap.size wr).drew (fun hHeld => ?_)
      refine wpAnyH_take (i := 0) (oi := { dst := some 37, op := Go.Op.fieldAddr 34 (Go.Operand.tmp 2) 0, type := 0, pos := "l11_engine.go:162", after := #[], guard := none }) (v := .pointer (some ⟨w.heap.size, 0, none⟩)) rfl (by kernel_rfl) (by kernel_rfl) (by kernel_rfl) (fun _ _ _ h => h) (Or.inl ⟨by rfl, by intro w hSw; (try dsimp only at hSw); go_simp⟩) (by assumption) ?_
      simp only [Act.put, List.setIfInBounds_toArray, List.set_cons_zero, List.set_cons_succ]
      refine wpAnyH_take (i := 1) (oi := { dst := some 38, op := Go.Op.load 31 (Go.Operand.tmp 37), type := 31, pos := "l11_engine.go:162", after := #[{ on := 0, ground := Go.Ground.data }], guard := none }) (v := .slice (some ⟨g1, o1, none⟩) a.procs.length k1) rfl (by kernel_rfl) (by kernel_rfl) (by kernel_rfl) (fun _ _ _ h => h) (Or.inl ⟨by rfl, by intro w hSw; (try dsimp only at hSw); have e0 := St.old_cell hSw lA e0; go_simp⟩) (by assumption) ?_
      simp only [Act.put, List.setIfInBounds_toArray, List.set_cons_zero, List.set_cons_succ]
      refine wpAnyH_take (i := 2) (oi := { dst := some 39, op := Go.Op.move (Go.Operand.tmp 5), type := 3, pos := "l11_engine.go:162", after := #[], guard := none }) (v := .int .i64 k) rfl (by kernel_rfl) (by kernel_rfl) (by kernel_rfl) (fun _ _ _ h => h) (Or.inl ⟨by rfl, by intro w hSw; (try dsimp only at hSw); go_simp⟩) (by assumption) ?_
      simp only [Act.put, List.setIfInBounds_toArray, List.set_cons_zero, List.set_cons_succ]
      refine wpAnyH_take (i := 3) (oi := { dst := some 40, op := Go.Op.indexAddr 31 (Go.Operand.tmp 38) (Go.Operand.tmp 39), type := 0, pos := "l11_engine.go:162", after := #[{ on := 1, ground := Go.Ground.data }, { on := 2, ground := Go.Ground.data }], guard := none }) (v := .pointer (some ⟨g1, o1 + k, none⟩)) rfl (by kernel_rfl) (by kernel_rfl) (by kernel_rfl) (fun _ _ _ h => h) (Or.inl ⟨by rfl, by intro w hSw; (try dsimp only at hSw); go_simp⟩) (by assumption) ?_
      simp only [Act.put, List.setIfInBounds_toArray, List.set_cons_zero, List.set_cons_succ]
      refine wpAnyH_take (i := 4) (oi := { dst := some 41, op := Go.Op.fieldAddr 53 (Go.Operand.tmp 40) 0, type := 0, pos := "l11_engine.go:162", after := #[{ on := 3, ground := Go.Ground.data }], guard := none }) (v := .pointer (some ⟨g1, o1 + k, none⟩)) rfl (by kernel_rfl) (by kernel_rfl) (by kernel_rfl) (fun _ _ _ h => h) (Or.inl ⟨by rfl, by intro w hSw; (try dsimp only at hSw); go_simp⟩) (by assumption) ?_
      simp only [Act.put, List.setIfInBounds_toArray, List.set_cons_zero, List.set_cons_succ]
      refine wpAnyH_take (i := 5) (oi := { dst := some 42, op := Go.Op.load 51 (Go.Operand.tmp 41), type := 51, pos := "l11_engine.go:162", after := #[{ on := 4, ground := Go.Ground.data }], guard := none }) (v := .slice a3 a.procs[k].length c3) rfl (by kernel_rfl) (by kernel_rfl) (by kernel_rfl) (fun _ _ _ h => h) (Or.inl ⟨by rfl, by intro w hSw; (try dsimp only at hSw); have p0 := St.old_cell hSw hg1 p0; go_simp⟩) (by assumption) ?_
      simp only [Act.put, List.setIfInBounds_toArray, List.set_cons_zero, List.set_cons_succ]
      refine wpAnyH_take (i := 6) (oi := { dst := some 43, op := Go.Op.fieldAddr 34 (Go.Operand.tmp 3) 0, type := 0, pos := "l11_engine.go:162", after := #[], guard := none }) (v := .pointer (some ⟨w.heap.size + 1, 0, none⟩)) rfl (by kernel_rfl) (by kernel_rfl) (by kernel_rfl) (fun _ _ _ h => h) (Or.inl ⟨by rfl, by intro w hSw; (try dsimp only at hSw); go_simp⟩) (by assumption) ?_
      simp only [Act.put, List.setIfInBounds_toArray, List.set_cons_zero, List.set_cons_succ]
      refine wpAnyH_take (i := 7) (oi := { dst := some 44, op := Go.Op.load 31 (Go.Operand.tmp 43), type := 31, pos := "l11_engine.go:162", after := #[{ on := 6, ground := Go.Ground.data }], guard := none }) (v := .slice (some ⟨g2, o2, none⟩) b.procs.length l1) rfl (by kernel_rfl) (by kernel_rfl) (by kernel_rfl) (fun _ _ _ h => h) (Or.inl ⟨by rfl, by intro w hSw; (try dsimp only at hSw); have f0 := St.old_cell hSw lB f0; go_simp⟩) (by assumption) ?_
      simp only [Act.put, List.setIfInBounds_toArray, List.set_cons_zero, List.set_cons_succ]
      refine wpAnyH_take (i := 8) (oi := { dst := some 45, op := Go.Op.move (Go.Operand.tmp 5), type := 3, pos := "l11_engine.go:162", after := #[], guard := none }) (v := .int .i64 k) rfl (by kernel_rfl) (by kernel_rfl) (by kernel_rfl) (fun _ _ _ h => h) (Or.inl ⟨by rfl, by intro w hSw; (try dsimp only at hSw); go_simp⟩) (by assumption) ?_
      simp only [Act.put, List.setIfInBounds_toArray, List.set_cons_zero, List.set_cons_succ]
      refine wpAnyH_take (i := 9) (oi := { dst := some 46, op := Go.Op.indexAddr 31 (Go.Operand.tmp 44) (Go.Operand.tmp 45), type := 0, pos := "l11_engine.go:162", after := #[{ on := 7, ground := Go.Ground.data }, { on := 8, ground := Go.Ground.data }], guard := none }) (v := .pointer (some ⟨g2, o2 + k, none⟩)) rfl (by kernel_rfl) (by kernel_rfl) (by kernel_rfl) (fun _ _ _ h => h) (Or.inl ⟨by rfl, by intro w hSw; (try dsimp only at hSw); go_simp⟩) (by assumption) ?_
      simp only [Act.put, List.setIfInBounds_toArray, List.set_cons_zero, List.set_cons_succ]
      refine wpAnyH_take (i := 10) (oi := { dst := some 47, op := Go.Op.fieldAddr 53 (Go.Operand.tmp 46) 0, type := 0, pos := "l11_engine.go:162", after := #[{ on := 9, ground := Go.Ground.data }], guard := none }) (v := .pointer (some ⟨g2, o2 + k, none⟩)) rfl (by kernel_rfl) (by kernel_rfl) (by kernel_rfl) (fun _ _ _ h => h) (Or.inl ⟨by rfl, by intro w hSw; (try dsimp only at hSw); go_simp⟩) (by assumption) ?_
      simp only [Act.put, List.setIfInBounds_toArray, List.set_cons_zero, List.set_cons_succ]
      refine wpAnyH_take (i := 11) (oi := { dst := some 48, op := Go.Op.load 51 (Go.Operand.tmp 47), type := 51, pos := "l11_engine.go:162", after := #[{ on := 10, ground := Go.Ground.data }], guard := none }) (v := .slice a4 b.procs[k].length c4) rfl (by kernel_rfl) (by kernel_rfl) (by kernel_rfl) (fun _ _ _ h => h) (Or.inl ⟨by rfl, by intro w hSw; (try dsimp only at hSw); have q0 := St.old_cell hSw hg2 q0; go_simp⟩) (by assumption) ?_
      simp only [Act.put, List.setIfInBounds_toArray, List.set_cons_zero, List.set_cons_succ]
      refine wpAnyH_ready (rs := [12]) (by kernel_rfl) (by simp) ?_
      refine AllReadyH.cons (o := { dst := some 49, op := Go.Op.call { callee := Go.Callee.value (Go.Operand.func 20), args := #[Go.Operand.tmp 42, Go.Operand.tmp 48], argTypes := #[51, 51] }, type := 4, pos := "l11_engine.go:162", after := #[{ on := 5, ground := Go.Ground.data }, { on := 11, ground := Go.Ground.data }], guard := none }) rfl (fun K hK => ?_) AllReadyH.nil
      go_simp
      go_at_call 20
      refine (HC.out _ (Below.refl wr.heap.size wr).drew).mono ?_
      rintro e w1 ⟨rfl, hb1⟩
      have hbb : Below wr.heap.size wr w1 := ((Below.refl wr.heap.size wr).drew).trans (hb1.mono (Below.refl wr.heap.size wr).drew.size)
      clear hb1
      go_wp2_with fail
      refine hK.out _ _ hbb (fun hHeld => ?_)
      clear hK K
      try simp only [Act.put, List.setIfInBounds_toArray, List.set_cons_zero, List.set_cons_succ]
      refine wpAnyH_take (i := 13) (oi := { dst := some 50, op := Go.Op.unOp Go.UnOp.not 4 (Go.Operand.tmp 49), type := 4, pos := "l11_engine.go:162", after := #[{ on := 12, ground := Go.Ground.data }], guard := none }) (v := .bool (!listEq stepEq a.procs[k] b.procs[k])) rfl (by kernel_rfl) (by kernel_rfl) (by kernel_rfl) (fun _ _ _ h => h) (Or.inl ⟨by rfl, by intro w hSw; (try dsimp only at hSw); go_simp⟩) (by assumption) ?_
      simp only [Act.put, List.setIfInBounds_toArray, List.set_cons_zero, List.set_cons_succ]
      refine wpAnyH_done (by kernel_rfl) ?_ _
      have HB2 := hid (HR.out.trans (hbb.mono HR.out.size))
      clear hbb hHeld HC e0 f0 lA lB p0 q0 hg1 hg2
      cases hE : listEq stepEq a.procs[k] b.procs[k]
      · have HF : Hid (z = false) := hid (by rw [HS0.out, HS.out, HST.out, hE, Bool.false_and, Bool.false_and])
        clear hE
        go_wp2
        go_ret
        exact ⟨by rw [HF.out]; rfl, HB.out.trans (HB2.out.mono HB.out.size)⟩
      · have HF : Hid (listEq (listEq stepEq) a.procs b.procs = listEq (listEq stepEq) (a.procs.drop (k + 1)) (b.procs.drop (k + 1))) := hid (by rw [HS.out, HST.out, hE, Bool.true_and])
        clear hE
        go_wp2
        exact ⟨⟨k + 1, by simp, by omega, HF, HB2⟩, by simp [intOf]; omega⟩
    · have HZ : Hid (z = listEq instEq a.insts b.insts) := hid (by rw [HS0.out, HS.out, listEq_end (by omega) (by have := HEP.out; omega), Bool.true_and])
      clear HS0 HS HEP
      go_wp2_with fail
      clear hlt hk e0 f0 lA lB
      go_loopw [6] (fun i wr => ∃ k : Nat, i = .int .i64 k ∧ k ≤ a.insts.length ∧ Hid (listEq instEq a.insts b.insts = listEq instEq (a.insts.drop k) (b.insts.drop k)) ∧ Hid (Below w0.heap.size w0 wr)) (fun i _ => a.insts.length - (intOf i).toNat)
      case atStart => exact ⟨0, rfl, Nat.zero_le _, rfl, HR⟩
      case round =>
        clear HR
        obtain ⟨k, rfl, hk, HS, HR⟩ := hrel
        have hA := (HR.out.block _ (Ch.blk_lt KA.out)).trans KA.out
        have hB := (HR.out.block _ (Ch.blk_lt KB.out)).trans KB.out
        have e1 : wr.cell? ⟨w.heap.size, 1, none⟩ = some (.slice a2 a.insts.length k2) := by rw [blk_cell hA]; rfl
        have f1 : wr.cell? ⟨w.heap.size + 1, 1, none⟩ = some (.slice b2 b.insts.length l2) := by rw [blk_cell hB]; rfl
        have lA := Ch.blk_lt hA
        have lB := Ch.blk_lt hB
        clear hA hB
        by_cases hlt : k < a.insts.length
        · have hlt2 : k < b.insts.length := by rw [← HEI.out]; exact hlt
          obtain ⟨g1, o1, x1, x2, x3, rfl, hg1, p0, p1, p2, p3, p4, p5, hc1⟩ := (H1.out.below HR.out).insts.at hlt
          obtain ⟨g2, o2, y1, y2, y3, rfl, hg2, q0, q1, q2, q3, q4, q5, hc2⟩ := (H2.out.below HR.out).insts.at hlt2
          have t1 : (k : Int) < (a.insts.length : Int) := by omega
          have t2 : (k : Int) < (b.insts.length : Int) := by omega
          have HST := hid (listEq_step (f := instEq) hlt hlt2)
          have HC : Hid (∀ w1 : World, Below wr.heap.size wr w1 → Calls Try.prog 21 #[.agg #[.int .i64 a.insts[k].chart.status, .int .i64 a.insts[k].chart.now, x1, x2, x3], .agg #[.int .i64 b.insts[k].chart.status, .int .i64 b.insts[k].chart.now, y1, y2, y3]] w1 fun e w' => e = .returned (.bool (Ch.same a.insts[k].chart b.insts[k].chart)) ∧ Below w1.heap.size w1 w') := hid (fun w1 h => Ch.specSame B1 B2 _ _ _ _ _ _ _ _ w1 (HL.out.insts.at hlt) (HM.out.insts.at hlt2) (hc1.below h) (hc2.below h))
          obtain ⟨a3, c3, rfl⟩ := hc1.vars.slice
          obtain ⟨a4, c4, rfl⟩ := hc1.marks.slice
          obtain ⟨a5, c5, rfl⟩ := hc1.dues.slice
          obtain ⟨b3, d3, rfl⟩ := hc2.vars.slice
          obtain ⟨b4, d4, rfl⟩ := hc2.marks.slice
          obtain ⟨b5, d5, rfl⟩ := hc2.dues.slice
          clear hc1 hc2
          cases h1 : (a.insts[k].proc == b.insts[k].proc)
          · have HF : Hid (z = false) := hid (by rw [HZ.out, HS.out, HST.out]; simp [instEq, h1])
            have b1 := bne_int h1
            simp only [Bool.not_false] at b1
            clear HC h1
            go_wp2
            try simp only [List.append_eq, List.cons_append, List.nil_append]
            go_quiet (fail)
            go_wp2
            go_ret
            exact ⟨by rw [HF.out]; rfl, HB.out.trans ((below_drewN HR.out nq).mono HB.out.size)⟩
          have b1 := bne_int h1
          simp only [Bool.not_true] at b1
          have HE2 := hid (show instEq a.insts[k] b.insts[k] = Ch.same a.insts[k].chart b.insts[k].chart by simp [instEq, h1])
          clear h1
          go_wp2
          refine wp_region_held_drew (S := fun wx => Below wr.heap.size wr wx) (by kernel_rfl) (Below.refl wr.heap.size wr).drew (fun hHeld => ?_)
          refine wpAnyH_take (i := 0) (oi := { dst := some 58, op := Go.Op.fieldAddr 34 (Go.Operand.tmp 2) 1, type := 0, pos := "l11_engine.go:167", after := #[], guard := none }) (v := .pointer (some ⟨w.heap.size, 1, none⟩)) rfl (by kernel_rfl) (by kernel_rfl) (by kernel_rfl) (fun _ _ _ h => h) (Or.inl ⟨by rfl, by intro w hSw; (try dsimp only at hSw); go_simp⟩) (by assumption) ?_
          simp only [Act.put, List.setIfInBounds_toArray, List.set_cons_zero, List.set_cons_succ]
          refine wpAnyH_take (i := 1) (oi := { dst := some 59, op := Go.Op.load 32 (Go.Operand.tmp 58), type := 32, pos := "l11_engine.go:167", after := #[{ on := 0, ground := Go.Ground.data }], guard := none }) (v := .slice (some ⟨g1, o1, none⟩) a.insts.length k2) rfl (by kernel_rfl) (by kernel_rfl) (by kernel_rfl) (fun _ _ _ h => h) (Or.inl ⟨by rfl, by intro w hSw; (try dsimp only at hSw); have e1 := St.old_cell hSw lA e1; go_simp⟩) (by assumption) ?_
          simp only [Act.put, List.setIfInBounds_toArray, List.set_cons_zero, List.set_cons_succ]
          refine wpAnyH_take (i := 2) (oi := { dst := some 60, op := Go.Op.move (Go.Operand.tmp 6), type := 3, pos := "l11_engine.go:167", after := #[], guard := none }) (v := .int .i64 k) rfl (by kernel_rfl) (by kernel_rfl) (by kernel_rfl) (fun _ _ _ h => h) (Or.inl ⟨by rfl, by intro w hSw; (try dsimp only at hSw); go_simp⟩) (by assumption) ?_
          simp only [Act.put, List.setIfInBounds_toArray, List.set_cons_zero, List.set_cons_succ]
          refine wpAnyH_take (i := 3) (oi := { dst := some 61, op := Go.Op.indexAddr 32 (Go.Operand.tmp 59) (Go.Operand.tmp 60), type := 0, pos := "l11_engine.go:167", after := #[{ on := 1, ground := Go.Ground.data }, { on := 2, ground := Go.Ground.data }], guard := none }) (v := .pointer (some ⟨g1, o1 + k * 6, none⟩)) rfl (by kernel_rfl) (by kernel_rfl) (by kernel_rfl) (fun _ _ _ h => h) (Or.inl ⟨by rfl, by intro w hSw; (try dsimp only at hSw); go_simp⟩) (by assumption) ?_
          simp only [Act.put, List.setIfInBounds_toArray, List.set_cons_zero, List.set_cons_succ]
          refine wpAnyH_take (i := 4) (oi := { dst := some 62, op := Go.Op.fieldAddr 58 (Go.Operand.tmp 61) 0, type := 0, pos := "l11_engine.go:167", after := #[{ on := 3, ground := Go.Ground.data }], guard := none }) (v := .pointer (some ⟨g1, o1 + k * 6, none⟩)) rfl (by kernel_rfl) (by kernel_rfl) (by kernel_rfl) (fun _ _ _ h => h) (Or.inl ⟨by rfl, by intro w hSw; (try dsimp only at hSw); go_simp⟩) (by assumption) ?_
          simp only [Act.put, List.setIfInBounds_toArray, List.set_cons_zero, List.set_cons_succ]
          refine wpAnyH_take (i := 5) (oi := { dst := some 63, op := Go.Op.load 2 (Go.Operand.tmp 62), type := 2, pos := "l11_engine.go:167", after := #[{ on := 4, ground := Go.Ground.data }], guard := none }) (v := .int .i64 a.insts[k].proc) rfl (by kernel_rfl) (by kernel_rfl) (by kernel_rfl) (fun _ _ _ h => h) (Or.inl ⟨by rfl, by intro w hSw; (try dsimp only at hSw); have p0 := St.old_cell hSw hg1 p0; go_simp⟩) (by assumption) ?_
          simp only [Act.put, List.setIfInBounds_toArray, List.set_cons_zero, List.set_cons_succ]
          refine wpAnyH_take (i := 6) (oi := { dst := some 64, op := Go.Op.fieldAddr 34 (Go.Operand.tmp 3) 1, type := 0, pos := "l11_engine.go:167", after := #[], guard := none }) (v := .pointer (some ⟨w.heap.size + 1, 1, none⟩)) rfl (by kernel_rfl) (by kernel_rfl) (by kernel_rfl) (fun _ _ _ h => h) (Or.inl ⟨by rfl, by intro w hSw; (try dsimp only at hSw); go_simp⟩) (by assumption) ?_
          simp only [Act.put, List.setIfInBounds_toArray, List.set_cons_zero, List.set_cons_succ]
          refine wpAnyH_take (i := 7) (oi := { dst := some 65, op := Go.Op.load 32 (Go.Operand.tmp 64), type := 32, pos := "l11_engine.go:167", after := #[{ on := 6, ground := Go.Ground.data }], guard := none }) (v := .slice (some ⟨g2, o2, none⟩) b.insts.length l2) rfl (by kernel_rfl) (by kernel_rfl) (by kernel_rfl) (fun _ _ _ h => h) (Or.inl ⟨by rfl, by intro w hSw; (try dsimp only at hSw); have f1 := St.old_cell hSw lB f1; go_simp⟩) (by assumption) ?_
          simp only [Act.put, List.setIfInBounds_toArray, List.set_cons_zero, List.set_cons_succ]
          refine wpAnyH_take (i := 8) (oi := { dst := some 66, op := Go.Op.move (Go.Operand.tmp 6), type := 3, pos := "l11_engine.go:167", after := #[], guard := none }) (v := .int .i64 k) rfl (by kernel_rfl) (by kernel_rfl) (by kernel_rfl) (fun _ _ _ h => h) (Or.inl ⟨by rfl, by intro w hSw; (try dsimp only at hSw); go_simp⟩) (by assumption) ?_
          simp only [Act.put, List.setIfInBounds_toArray, List.set_cons_zero, List.set_cons_succ]
          refine wpAnyH_take (i := 9) (oi := { dst := some 67, op := Go.Op.indexAddr 32 (Go.Operand.tmp 65) (Go.Operand.tmp 66), type := 0, pos := "l11_engine.go:167", after := #[{ on := 7, ground := Go.Ground.data }, { on := 8, ground := Go.Ground.data }], guard := none }) (v := .pointer (some ⟨g2, o2 + k * 6, none⟩)) rfl (by kernel_rfl) (by kernel_rfl) (by kernel_rfl) (fun _ _ _ h => h) (Or.inl ⟨by rfl, by intro w hSw; (try dsimp only at hSw); go_simp⟩) (by assumption) ?_
          simp only [Act.put, List.setIfInBounds_toArray, List.set_cons_zero, List.set_cons_succ]
          refine wpAnyH_take (i := 10) (oi := { dst := some 68, op := Go.Op.fieldAddr 58 (Go.Operand.tmp 67) 0, type := 0, pos := "l11_engine.go:167", after := #[{ on := 9, ground := Go.Ground.data }], guard := none }) (v := .pointer (some ⟨g2, o2 + k * 6, none⟩)) rfl (by kernel_rfl) (by kernel_rfl) (by kernel_rfl) (fun _ _ _ h => h) (Or.inl ⟨by rfl, by intro w hSw; (try dsimp only at hSw); go_simp⟩) (by assumption) ?_
          simp only [Act.put, List.setIfInBounds_toArray, List.set_cons_zero, List.set_cons_succ]
          refine wpAnyH_take (i := 11) (oi := { dst := some 69, op := Go.Op.load 2 (Go.Operand.tmp 68), type := 2, pos := "l11_engine.go:167", after := #[{ on := 10, ground := Go.Ground.data }], guard := none }) (v := .int .i64 b.insts[k].proc) rfl (by kernel_rfl) (by kernel_rfl) (by kernel_rfl) (fun _ _ _ h => h) (Or.inl ⟨by rfl, by intro w hSw; (try dsimp only at hSw); have q0 := St.old_cell hSw hg2 q0; go_simp⟩) (by assumption) ?_
          simp only [Act.put, List.setIfInBounds_toArray, List.set_cons_zero, List.set_cons_succ]
          refine wpAnyH_take (i := 12) (oi := { dst := some 70, op := Go.Op.binOp Go.BinOp.neq 2 (Go.Operand.tmp 63) (Go.Operand.tmp 69) 2, type := 4, pos := "l11_engine.go:167", after := #[{ on := 5, ground := Go.Ground.data }, { on := 11, ground := Go.Ground.data }], guard := none }) (v := .bool false) rfl (by kernel_rfl) (by kernel_rfl) (by kernel_rfl) (fun _ _ _ h => h) (Or.inl ⟨by rfl, by intro w hSw; (try dsimp only at hSw); go_simp⟩) (by assumption) ?_
          simp only [Act.put, List.setIfInBounds_toArray, List.set_cons_zero, List.set_cons_succ]
          refine wpAnyH_take (i := 13) (oi := { dst := some 71, op := Go.Op.move (Go.Operand.tmp 70), type := 4, pos := "l11_engine.go:167", after := #[{ on := 12, ground := Go.Ground.data }], guard := none }) (v := .bool false) rfl (by kernel_rfl) (by kernel_rfl) (by kernel_rfl) (fun _ _ _ h => h) (Or.inl ⟨by rfl, by intro w hSw; (try dsimp only at hSw); go_simp⟩) (by assumption) ?_
          simp only [Act.put, List.setIfInBounds_toArray, List.set_cons_zero, List.set_cons_succ]
          refine wpAnyH_take (i := 14) (oi := { dst := some 72, op := Go.Op.fieldAddr 34 (Go.Operand.tmp 2) 1, type := 0, pos := "l11_engine.go:167", after := #[{ on := 13, ground := Go.Ground.guard }], guard := some (13, false) }) (v := .pointer (some ⟨w.heap.size, 1, none⟩)) rfl (by kernel_rfl) (by kernel_rfl) (by kernel_rfl) (fun _ _ _ h => h) (Or.inl ⟨by rfl, by intro w hSw; (try dsimp only at hSw); go_simp⟩) (by assumption) ?_
          simp only [Act.put, List.setIfInBounds_toArray, List.set_cons_zero, List.set_cons_succ]
          refine wpAnyH_take (i := 15) (oi := { dst := some 73, op := Go.Op.load 32 (Go.Operand.tmp 72), type := 32, pos := "l11_engine.go:167", after := #[{ on := 14, ground := Go.Ground.data }, { on := 13, ground := Go.Ground.guard }], guard := some (13, false) }) (v := .slice (some ⟨g1, o1, none⟩) a.insts.length k2) rfl (by kernel_rfl) (by kernel_rfl) (by kernel_rfl) (fun _ _ _ h => h) (Or.inl ⟨by rfl, by intro w hSw; (try dsimp only at hSw); have e1 := St.old_cell hSw lA e1; go_simp⟩) (by assumption) ?_
          simp only [Act.put, List.setIfInBounds_toArray, List.set_cons_zero, List.set_cons_succ]
          refine wpAnyH_take (i := 16) (oi := { dst := some 74, op := Go.Op.move (Go.Operand.tmp 6), type := 3, pos := "l11_engine.go:167", after := #[{ on := 13, ground := Go.Ground.guard }], guard := some (13, false) }) (v := .int .i64 k) rfl (by kernel_rfl) (by kernel_rfl) (by kernel_rfl) (fun _ _ _ h => h) (Or.inl ⟨by rfl, by intro w hSw; (try dsimp only at hSw); go_simp⟩) (by assumption) ?_
          simp only [Act.put, List.setIfInBounds_toArray, List.set_cons_zero, List.set_cons_succ]
          refine wpAnyH_take (i := 17) (oi := { dst := some 75, op := Go.Op.indexAddr 32 (Go.Operand.tmp 73) (Go.Operand.tmp 74), type := 0, pos := "l11_engine.go:167", after := #[{ on := 15, ground := Go.Ground.data }, { on := 16, ground := Go.Ground.data }, { on := 13, ground := Go.Ground.guard }], guard := some (13, false) }) (v := .pointer (some ⟨g1, o1 + k * 6, none⟩)) rfl (by kernel_rfl) (by kernel_rfl) (by kernel_rfl) (fun _ _ _ h => h) (Or.inl ⟨by rfl, by intro w hSw; (try dsimp only at hSw); go_simp⟩) (by assumption) ?_
          simp only [Act.put, List.setIfInBounds_toArray, List.set_cons_zero, List.set_cons_succ]
          refine wpAnyH_take (i := 18) (oi := { dst := some 76, op := Go.Op.fieldAddr 58 (Go.Operand.tmp 75) 1, type := 0, pos := "l11_engine.go:167", after := #[{ on := 17, ground := Go.Ground.data }, { on := 13, ground := Go.Ground.guard }], guard := some (13, false) }) (v := .pointer (some ⟨g1, o1 + k * 6 + 1, none⟩)) rfl (by kernel_rfl) (by kernel_rfl) (by kernel_rfl) (fun _ _ _ h => h) (Or.inl ⟨by rfl, by intro w hSw; (try dsimp only at hSw); go_simp⟩) (by assumption) ?_
          simp only [Act.put, List.setIfInBounds_toArray, List.set_cons_zero, List.set_cons_succ]
          refine wpAnyH_take (i := 19) (oi := { dst := some 77, op := Go.Op.load 56 (Go.Operand.tmp 76), type := 56, pos := "l11_engine.go:167", after := #[{ on := 18, ground := Go.Ground.data }, { on := 13, ground := Go.Ground.guard }], guard := some (13, false) }) (v := .agg #[.int .i64 a.insts[k].chart.status, .int .i64 a.insts[k].chart.now, .slice a3 a.insts[k].chart.vars.length c3, .slice a4 a.insts[k].chart.marks.length c4, .slice a5 a.insts[k].chart.dues.length c5]) rfl (by kernel_rfl) (by kernel_rfl) (by kernel_rfl) (fun _ _ _ h => h) (Or.inl ⟨by rfl, by intro w hSw; (try dsimp only at hSw); have p1 := St.old_cell hSw hg1 p1; have p2 := St.old_cell hSw hg1 p2; have p3 := St.old_cell hSw hg1 p3; have p4 := St.old_cell hSw hg1 p4; have p5 := St.old_cell hSw hg1 p5; go_simp⟩) (by assumption) ?_
          simp only [Act.put, List.setIfInBounds_toArray, List.set_cons_zero, List.set_cons_succ]
          refine wpAnyH_take (i := 20) (oi := { dst := some 78, op := Go.Op.fieldAddr 34 (Go.Operand.tmp 3) 1, type := 0, pos := "l11_engine.go:167", after := #[{ on := 13, ground := Go.Ground.guard }], guard := some (13, false) }) (v := .pointer (some ⟨w.heap.size + 1, 1, none⟩)) rfl (by kernel_rfl) (by kernel_rfl) (by kernel_rfl) (fun _ _ _ h => h) (Or.inl ⟨by rfl, by intro w hSw; (try dsimp only at hSw); go_simp⟩) (by assumption) ?_
          simp only [Act.put, List.setIfInBounds_toArray, List.set_cons_zero, List.set_cons_succ]
          refine wpAnyH_take (i := 21) (oi := { dst := some 79, op := Go.Op.load 32 (Go.Operand.tmp 78), type := 32, pos := "l11_engine.go:167", after := #[{ on := 20, ground := Go.Ground.data }, { on := 13, ground := Go.Ground.guard }], guard := some (13, false) }) (v := .slice (some ⟨g2, o2, none⟩) b.insts.length l2) rfl (by kernel_rfl) (by kernel_rfl) (by kernel_rfl) (fun _ _ _ h => h) (Or.inl ⟨by rfl, by intro w hSw; (try dsimp only at hSw); have f1 := St.old_cell hSw lB f1; go_simp⟩) (by assumption) ?_
          simp only [Act.put, List.setIfInBounds_toArray, List.set_cons_zero, List.set_cons_succ]
          refine wpAnyH_take (i := 22) (oi := { dst := some 80, op := Go.Op.move (Go.Operand.tmp 6), type := 3, pos := "l11_engine.go:167", after := #[{ on := 13, ground := Go.Ground.guard }], guard := some (13, false) }) (v := .int .i64 k) rfl (by kernel_rfl) (by kernel_rfl) (by kernel_rfl) (fun _ _ _ h => h) (Or.inl ⟨by rfl, by intro w hSw; (try dsimp only at hSw); go_simp⟩) (by assumption) ?_
          simp only [Act.put, List.setIfInBounds_toArray, List.set_cons_zero, List.set_cons_succ]
          refine wpAnyH_take (i := 23) (oi := { dst := some 81, op := Go.Op.indexAddr 32 (Go.Operand.tmp 79) (Go.Operand.tmp 80), type := 0, pos := "l11_engine.go:167", after := #[{ on := 21, ground := Go.Ground.data }, { on := 22, ground := Go.Ground.data }, { on := 13, ground := Go.Ground.guard }], guard := some (13, false) }) (v := .pointer (some ⟨g2, o2 + k * 6, none⟩)) rfl (by kernel_rfl) (by kernel_rfl) (by kernel_rfl) (fun _ _ _ h => h) (Or.inl ⟨by rfl, by intro w hSw; (try dsimp only at hSw); go_simp⟩) (by assumption) ?_
          simp only [Act.put, List.setIfInBounds_toArray, List.set_cons_zero, List.set_cons_succ]
          refine wpAnyH_take (i := 24) (oi := { dst := some 82, op := Go.Op.fieldAddr 58 (Go.Operand.tmp 81) 1, type := 0, pos := "l11_engine.go:167", after := #[{ on := 23, ground := Go.Ground.data }, { on := 13, ground := Go.Ground.guard }], guard := some (13, false) }) (v := .pointer (some ⟨g2, o2 + k * 6 + 1, none⟩)) rfl (by kernel_rfl) (by kernel_rfl) (by kernel_rfl) (fun _ _ _ h => h) (Or.inl ⟨by rfl, by intro w hSw; (try dsimp only at hSw); go_simp⟩) (by assumption) ?_
          simp only [Act.put, List.setIfInBounds_toArray, List.set_cons_zero, List.set_cons_succ]
          refine wpAnyH_take (i := 25) (oi := { dst := some 83, op := Go.Op.load 56 (Go.Operand.tmp 82), type := 56, pos := "l11_engine.go:167", after := #[{ on := 24, ground := Go.Ground.data }, { on := 13, ground := Go.Ground.guard }], guard := some (13, false) }) (v := .agg #[.int .i64 b.insts[k].chart.status, .int .i64 b.insts[k].chart.now, .slice b3 b.insts[k].chart.vars.length d3, .slice b4 b.insts[k].chart.marks.length d4, .slice b5 b.insts[k].chart.dues.length d5]) rfl (by kernel_rfl) (by kernel_rfl) (by kernel_rfl) (fun _ _ _ h => h) (Or.inl ⟨by rfl, by intro w hSw; (try dsimp only at hSw); have q1 := St.old_cell hSw hg2 q1; have q2 := St.old_cell hSw hg2 q2; have q3 := St.old_cell hSw hg2 q3; have q4 := St.old_cell hSw hg2 q4; have q5 := St.old_cell hSw hg2 q5; go_simp⟩) (by assumption) ?_
          simp only [Act.put, List.setIfInBounds_toArray, List.set_cons_zero, List.set_cons_succ]
          refine wpAnyH_ready (rs := [26]) (by kernel_rfl) (by simp) ?_
          refine AllReadyH.cons (o := { dst := some 84, op := Go.Op.call { callee := Go.Callee.value (Go.Operand.func 21), args := #[Go.Operand.tmp 77, Go.Operand.tmp 83], argTypes := #[56, 56] }, type := 4, pos := "l11_engine.go:167", after := #[{ on := 19, ground := Go.Ground.data }, { on := 25, ground := Go.Ground.data }, { on := 13, ground := Go.Ground.chain }, { on := 13, ground := Go.Ground.guard }], guard := some (13, false) }) rfl (fun K hK => ?_) AllReadyH.nil
          go_simp
          go_at_call 21
          refine (HC.out _ (Below.refl wr.heap.size wr).drew).mono ?_
          rintro e w1 ⟨rfl, hb1⟩
          have hbb : Below wr.heap.size wr w1 := ((Below.refl wr.heap.size wr).drew).trans (hb1.mono (Below.refl wr.heap.size wr).drew.size)
          clear hb1
          go_wp2_with fail
          refine hK.out _ _ hbb (fun hHeld => ?_)
          clear hK K
          try simp only [Act.put, List.setIfInBounds_toArray, List.set_cons_zero, List.set_cons_succ]
          refine wpAnyH_take (i := 27) (oi := { dst := some 85, op := Go.Op.unOp Go.UnOp.not 4 (Go.Operand.tmp 84), type := 4, pos := "l11_engine.go:167", after := #[{ on := 26, ground := Go.Ground.data }, { on := 13, ground := Go.Ground.guard }], guard := some (13, false) }) (v := .bool (!Ch.same a.insts[k].chart b.insts[k].chart)) rfl (by kernel_rfl) (by kernel_rfl) (by kernel_rfl) (fun _ _ _ h => h) (Or.inl ⟨by rfl, by intro w hSw; (try dsimp only at hSw); go_simp⟩) (by assumption) ?_
          simp only [Act.put, List.setIfInBounds_toArray, List.set_cons_zero, List.set_cons_succ]
          refine wpAnyH_take (i := 28) (oi := { dst := some 86, op := Go.Op.pick (Go.Operand.tmp 71) (Go.Operand.const (Go.Value.bool true)) (Go.Operand.tmp 85), type := 4, pos := "l11_engine.go:167", after := #[{ on := 13, ground := Go.Ground.data }, { on := 27, ground := Go.Ground.data }], guard := none }) (v := .bool (!Ch.same a.insts[k].chart b.insts[k].chart)) rfl (by kernel_rfl) (by kernel_rfl) (by kernel_rfl) (fun _ _ _ h => h) (Or.inl ⟨by rfl, by intro w hSw; (try dsimp only at hSw); go_simp⟩) (by assumption) ?_
          simp only [Act.put, List.setIfInBounds_toArray, List.set_cons_zero, List.set_cons_succ]
          refine wpAnyH_done (by kernel_rfl) ?_ _
          have HB2 := hid (HR.out.trans (hbb.mono HR.out.size))
          clear hbb hHeld HC e1 f1 lA lB p0 p1 p2 p3 p4 p5 q0 q1 q2 q3 q4 q5 hg1 hg2
          cases hE : Ch.same a.insts[k].chart b.insts[k].chart
          · have HF : Hid (z = false) := hid (by rw [HZ.out, HS.out, HST.out, HE2.out, hE, Bool.false_and])
            clear hE HE2
            go_wp2
            go_ret
            exact ⟨by rw [HF.out]; rfl, HB.out.trans (HB2.out.mono HB.out.size)⟩
          · have HF : Hid (listEq instEq a.insts b.insts = listEq instEq (a.insts.drop (k + 1)) (b.insts.drop (k + 1))) := hid (by rw [HS.out, HST.out, HE2.out, hE, Bool.true_and])
            clear hE HE2
            go_wp2
            exact ⟨⟨k + 1, by simp, by omega, HF, HB2⟩, by simp [intOf]; omega⟩
        · have HF : Hid (z = true) := hid (by rw [HZ.out, HS.out]; exact listEq_end (by omega) (by have := HEI.out; omega))
          go_wp2
          go_ret
          exact ⟨by rw [HF.out]; rfl, HB.out.trans (HR.out.mono HB.out.size)⟩
end En
end Go.Proofs.Ytpninlangjfcfaa
