/- SyncJournal and CrashJournal of the program. No condition. -/
import Derived.Test.YtiliahibnhfhoaaJaA
namespace Go.Proofs.Ytiliahibnhfhoaa
open Go.RowKit
set_option linter.unusedVariables false
namespace Jn
set_option maxRecDepth 100000 in
set_option maxHeartbeats 8000000 in
theorem implSync (B : Nat) (s l : List UInt8) (v1 v2 : Value) (w : World) (h1 : s.length ≤ 1048576) (h2 : l.length ≤ 1048576) (hB : B ≤ w.heap.size) (ha1 : At w B v1 s) (ha2 : At w B v2 l) :
    Calls Try.prog 40 #[.agg #[v1, v2]] w (SYPost s l w) := by
  obtain ⟨a1, c1, rfl, _⟩ := ha1.slice
  obtain ⟨a2, c2, rfl, _⟩ := ha2.slice
  obtain ⟨hb0, hx0, hx1, hx2⟩ := two_blocks w #[.slice a1 s.length c1, .slice a2 l.length c2] #[.int .i64 0, .int .i64 0, .slice none 0 0, .slice none 0 0] 44 49
  have HA1 := hid (fun w' (hb : Below w.heap.size w w') => ha1.below hb hB)
  have HA2 := hid (fun w' (hb : Below w.heap.size w w') => ha2.below hb hB)
  have HB0 := hid hb0
  have HX0 := hid hx0
  have HX1 := hid hx1
  have HX2 := hid hx2
  have HF := hid (implJFault B s l _ _ _ h1 h2 (Nat.le_trans hB hb0.size) (ha1.below hb0 hB) (ha2.below hb0 hB))
  have HC := hid (fun h => of_jF (s := s) (l := l) h)
  obtain ⟨R, hR⟩ : ∃ R, Hid (R = SYPost s l w) := ⟨_, hid rfl⟩
  rw [← hR.out]
  unfold SYPost at hR
  generalize jF s l = f at *
  clear ha1 ha2 hb0 hx0 hx1 hx2
  go_enter Try.func40, Try.ntmps40
  go_wp2_with fail
  refine HF.out.mono ?_
  rintro e w1 ⟨rfl, hb1⟩
  have hB1 := HB0.out.trans (hb1.mono HB0.out.size)
  have hp0 := (hb1.block _ (by rw [HX2.out]; omega)).trans HX0.out
  have hp1 := (hb1.block _ (by rw [HX2.out]; omega)).trans HX1.out
  have l1 : w.heap.size + 1 + 1 ≤ w1.heap.size := by have := hb1.size; rw [HX2.out] at this; exact this
  have B1 := hid hB1
  have P0 := hid hp0
  have P1 := hid hp1
  clear hb1 HF HB0 HX0 HX1 HX2 hB1 hp0 hp1
  by_cases hz : f = 0
  · have b9 : (f != 0) = false := by simp [hz]
    have HZ := hid hz
    have HCC := hid (HC.out hz)
    have hsl := HCC.out.1
    have lb0 : w.heap.size < w1.heap.size := by omega
    have b0 := blk_cell P0.out (o := 0) (v := .slice a1 s.length c1) rfl
    have b1 := blk_cell P0.out (o := 1) (v := .slice a2 l.length c2) rfl
    have hBM := hid (B1.out.alloc B1.out.size (.cells #[.slice a1 s.length c1, .slice a2 l.length c2] 24))
    have HCT := hid (implConcat B w1.heap.size s l _ _ 24 _ (by omega) (Nat.le_trans hB hBM.out.size) (HA1.out _ hBM.out) (HA2.out _ hBM.out) (heap_alloc_new w1 (.cells #[.slice a1 s.length c1, .slice a2 l.length c2] 24)))
    have HSL : Hid ((s ++ l).length = s.length + l.length) := hid List.length_append
    unfold BPost at HCT
    generalize s ++ l = p at *
    clear hz
    go_wp2_with fail
    refine HCT.out.mono ?_
    rintro e w2 ⟨a5, c5, rfl, ho5, hb5⟩
    have B5 := hid (hBM.out.trans (hb5.mono hBM.out.size))
    simp only [World.size_alloc] at hb5 ho5
    have Q5 := hid ((hb5.block _ (by omega)).trans ((Below.heap_alloc w1 (.cells #[.slice a1 s.length c1, .slice a2 l.length c2] 24) _ (by omega)).trans P1.out))
    have O5 := hid ho5
    have hpl : p.length ≤ 2400 := by rw [HSL.out]; exact hsl
    have HCN := hid (implCounted w2.heap.size p [] (.slice a5 p.length c5) (.slice none 0 0) w2 (by omega) (by simp) (Nat.le_refl _) ho5.at (at_nil _ _ _ _))
    have l2 := hb5.size
    clear hb5 ho5
    go_wp2_with fail
    refine HCN.out.mono ?_
    rintro e w3 ⟨rfl, hb6⟩
    simp only [World.size_alloc] at l2
    have Q6 := hid ((hb6.block _ (by omega)).trans Q5.out)
    have B6 := hid (B5.out.trans (hb6.mono B5.out.size))
    have J6 : Hid (Jo w3 (w1.heap.size + 1) (.slice a5 p.length c5) (.slice none 0 0) p []) := hid ⟨O5.out.below hb6 (Nat.le_refl _), ob_nil _ _, fun b _ h => by cases h⟩
    have t0 := blk_cell Q6.out (o := 0) (v := .int .i64 0) rfl
    have t1 := blk_cell Q6.out (o := 1) (v := .int .i64 0) rfl
    have t2 := blk_cell Q6.out (o := 2) (v := .slice none 0 0) rfl
    have t3 := blk_cell Q6.out (o := 3) (v := .slice none 0 0) rfl
    have f0 := blk_free (o := 0) Q6.out
    have f1 := blk_free (o := 1) Q6.out
    have f2 := blk_free (o := 2) Q6.out
    have f3 := blk_free (o := 3) Q6.out
    clear hb6
    go_wp2
    refine bodyPost_ret (results_cell_row Try.results40 _ _ (w.heap.size + 1) 49 #[.int .i64 0, .int .i64 (countN p [] : Int), .slice a5 p.length c5, .slice none ([] : List UInt8).length 0] (0, 0) _ rfl (set4 Q6.out _ _ _ _) Try.underlying49 rfl info4) rfl ?_
    rw [hR.out]
    exact jpost_so HZ.out rfl ((jo4 J6.out (by omega)).mono (by omega)) (below4 B6.out (by omega) _ _ _ _)
  · have b9 : (f != 0) = true := by simpa using hz
    have HZ := hid hz
    have t0 := blk_cell P1.out (o := 0) (v := .int .i64 0) rfl
    have t1 := blk_cell P1.out (o := 1) (v := .int .i64 0) rfl
    have t2 := blk_cell P1.out (o := 2) (v := .slice none 0 0) rfl
    have t3 := blk_cell P1.out (o := 3) (v := .slice none 0 0) rfl
    have f0 := blk_free (o := 0) P1.out
    have f1 := blk_free (o := 1) P1.out
    have f2 := blk_free (o := 2) P1.out
    have f3 := blk_free (o := 3) P1.out
    clear hz
    go_wp2
    refine bodyPost_ret (results_cell_row Try.results40 _ _ (w.heap.size + 1) 49 #[.int .i64 (f), .int .i64 0, .slice none 0 0, .slice none 0 0] (0, 0) _ rfl (set4 P1.out _ _ _ _) Try.underlying49 rfl info4) rfl ?_
    rw [hR.out]
    exact jpost_no HZ.out rfl (below4 B1.out (by omega) _ _ _ _)
set_option maxRecDepth 100000 in
set_option maxHeartbeats 8000000 in
theorem implCrash (B : Nat) (s l : List UInt8) (k : Int) (v1 v2 : Value) (w : World) (h1 : s.length ≤ 1048576) (h2 : l.length ≤ 1048576) (hB : B ≤ w.heap.size) (ha1 : At w B v1 s) (ha2 : At w B v2 l) :
    Calls Try.prog 42 #[.agg #[v1, v2], .int .i64 k] w (CRPost s l k w) := by
  obtain ⟨a1, c1, rfl, _⟩ := ha1.slice
  obtain ⟨a2, c2, rfl, _⟩ := ha2.slice
  obtain ⟨hb0, hx0, hx1, hx2⟩ := two_blocks w #[.slice a1 s.length c1, .slice a2 l.length c2] #[.int .i64 0, .int .i64 0, .slice none 0 0, .slice none 0 0] 44 49
  have HA1 := hid (fun w' (hb : Below w.heap.size w w') => ha1.below hb hB)
  have HA2 := hid (fun w' (hb : Below w.heap.size w w') => ha2.below hb hB)
  have HB0 := hid hb0
  have HX0 := hid hx0
  have HX1 := hid hx1
  have HX2 := hid hx2
  have HF := hid (implJFault B s l _ _ _ h1 h2 (Nat.le_trans hB hb0.size) (ha1.below hb0 hB) (ha2.below hb0 hB))
  have HC := hid (fun h => of_jF (s := s) (l := l) h)
  obtain ⟨R, hR⟩ : ∃ R, Hid (R = CRPost s l k w) := ⟨_, hid rfl⟩
  rw [← hR.out]
  have HK1 := hid (fun h => kC_1 (s := s) (l := l) (k := k) h)
  have HK2 := hid (fun h h2 => kC_2 (s := s) (l := l) (k := k) h h2)
  have HK3 := hid (fun h h2 => kC_3 (s := s) (l := l) (k := k) h h2)
  unfold CRPost at hR
  generalize kC s l k = kc at *
  generalize jF s l = f at *
  have HTO := hid (fun m hm => ha2.to m hm)
  clear ha1 ha2 hb0 hx0 hx1 hx2
  go_enter Try.func42, Try.ntmps42
  go_wp2_with fail
  refine HF.out.mono ?_
  rintro e w1 ⟨rfl, hb1⟩
  have hB1 := HB0.out.trans (hb1.mono HB0.out.size)
  have hp0 := (hb1.block _ (by rw [HX2.out]; omega)).trans HX0.out
  have hp1 := (hb1.block _ (by rw [HX2.out]; omega)).trans HX1.out
  have l1 : w.heap.size + 1 + 1 ≤ w1.heap.size := by have := hb1.size; rw [HX2.out] at this; exact this
  have B1 := hid hB1
  have P0 := hid hp0
  have P1 := hid hp1
  clear hb1 HF HB0 HX0 HX1 HX2 hB1 hp0 hp1
  by_cases hz : f = 0
  · have b9 : (f != 0) = false := by simp [hz]
    have HZ := hid hz
    have HCC := hid (HC.out hz)
    have hsl := HCC.out.1
    have lb0 : w.heap.size < w1.heap.size := by omega
    have b0 := blk_cell P0.out (o := 0) (v := .slice a1 s.length c1) rfl
    have b1 := blk_cell P0.out (o := 1) (v := .slice a2 l.length c2) rfl
    have hbd : Below w1.heap.size w1 w1.drew := (Below.refl _ w1).drew
    by_cases hk0 : 0 ≤ k
    · by_cases hk1 : k ≤ (l.length : Int)
      · have HKC := hid (HK3.out hz ⟨hk0, hk1⟩)
        obtain ⟨m, hm⟩ : ∃ m : Nat, k = (m : Int) := ⟨k.toNat, by omega⟩
        have hml : m ≤ l.length := by omega
        subst hm
        have q1 : ¬ (m : Int) < 0 := by omega
        have q2 : ¬ (l.length : Int) < (m : Int) := by omega
        obtain ⟨a9, hsl9, hat9, h9⟩ := HTO.out m hml
        rw [h9] at hsl9 hat9
        have hTL : (l.take m).length = m := by rw [List.length_take]; omega
        have hbm : Below w1.heap.size w1 (w1.drew.alloc (.cells #[.slice a1 s.length c1, .slice a2 m c2] 24)) := hbd.alloc (by simp) _
        have hBM := B1.out.trans (hbm.mono B1.out.size)
        have HCT := hid (implConcat B w1.heap.size s (l.take m) (.slice a1 s.length c1) (.slice a2 m c2) 24 _ (by rw [hTL]; omega) (Nat.le_trans hB hBM.size) (HA1.out _ hBM) (hat9.below hBM hB) (heap_alloc_new w1.drew (.cells #[.slice a1 s.length c1, .slice a2 m c2] 24)))
        have HPL : Hid ((s ++ l.take m).length = s.length + m) := hid (by rw [List.length_append, hTL])
        have HCU : Hid (cutL s l (m : Int) = (s ++ l.take m).take (readL (s ++ l.take m)).2) := hid (by unfold cutL; rw [Int.toNat_natCast])
        rw [HCU.out] at hR
        unfold BPost at HCT
        generalize s ++ l.take m = p at *
        clear hz hk0 hk1 hat9 HK1 HK2 HK3 HTO hTL hBM HCU
        go_wp2_with fail
        refine wp_region_held_drew (S := fun wx => Below w.heap.size w wx ∧ wx.heap[w.heap.size]? = some (.cells #[.slice a1 s.length c1, .slice a2 l.length c2] 44 (0, 0))) (by kernel_rfl) (keepS B1.out P0.out lb0 hbd) (fun hHeld => ?_)
        refine wpAnyH_take (i := 0) (oi := { dst := some 23, op := Go.Op.fieldAddr 44 (Go.Operand.tmp 2) 0, type := 0, pos := "l13_journal.go:202", after := #[], guard := none }) (v := .pointer (some ⟨w.heap.size, 0, none⟩)) rfl (by kernel_rfl) (by kernel_rfl) (by kernel_rfl) (fun _ _ _ h => h) (Or.inl ⟨by rfl, by intro w hSw; (try dsimp only at hSw); go_simp⟩) (by assumption) ?_
        simp only [Act.put, List.setIfInBounds_toArray, List.set_cons_zero, List.set_cons_succ]
        refine wpAnyH_take (i := 1) (oi := { dst := some 24, op := Go.Op.load 24 (Go.Operand.tmp 23), type := 24, pos := "l13_journal.go:202", after := #[{ on := 0, ground := Go.Ground.data }], guard := none }) (v := .slice a1 s.length c1) rfl (by kernel_rfl) (by kernel_rfl) (by kernel_rfl) (fun _ _ _ h => h) (Or.inl ⟨by rfl, by intro w hSw; (try dsimp only at hSw); have ca := blk_cell hSw.2 (o := 0) (v := .slice a1 s.length c1) rfl; go_simp⟩) (by assumption) ?_
        simp only [Act.put, List.setIfInBounds_toArray, List.set_cons_zero, List.set_cons_succ]
        refine wpAnyH_take (i := 2) (oi := { dst := some 25, op := Go.Op.fieldAddr 44 (Go.Operand.tmp 2) 1, type := 0, pos := "l13_journal.go:202", after := #[], guard := none }) (v := .pointer (some ⟨w.heap.size, 1, none⟩)) rfl (by kernel_rfl) (by kernel_rfl) (by kernel_rfl) (fun _ _ _ h => h) (Or.inl ⟨by rfl, by intro w hSw; (try dsimp only at hSw); go_simp⟩) (by assumption) ?_
        simp only [Act.put, List.setIfInBounds_toArray, List.set_cons_zero, List.set_cons_succ]
        refine wpAnyH_take (i := 3) (oi := { dst := some 26, op := Go.Op.load 24 (Go.Operand.tmp 25), type := 24, pos := "l13_journal.go:202", after := #[{ on := 2, ground := Go.Ground.data }], guard := none }) (v := .slice a2 l.length c2) rfl (by kernel_rfl) (by kernel_rfl) (by kernel_rfl) (fun _ _ _ h => h) (Or.inl ⟨by rfl, by intro w hSw; (try dsimp only at hSw); have ca := blk_cell hSw.2 (o := 1) (v := .slice a2 l.length c2) rfl; go_simp⟩) (by assumption) ?_
        simp only [Act.put, List.setIfInBounds_toArray, List.set_cons_zero, List.set_cons_succ]
        refine wpAnyH_take (i := 4) (oi := { dst := some 27, op := Go.Op.move (Go.Operand.tmp 1), type := 2, pos := "l13_journal.go:202", after := #[], guard := none }) (v := .int .i64 (m : Int)) rfl (by kernel_rfl) (by kernel_rfl) (by kernel_rfl) (fun _ _ _ h => h) (Or.inl ⟨by rfl, by intro w hSw; (try dsimp only at hSw); go_simp⟩) (by assumption) ?_
        simp only [Act.put, List.setIfInBounds_toArray, List.set_cons_zero, List.set_cons_succ]
        refine wpAnyH_take (i := 5) (oi := { dst := some 28, op := Go.Op.slice 24 (Go.Operand.tmp 26) none (some (Go.Operand.tmp 27)) none, type := 24, pos := "l13_journal.go:202", after := #[{ on := 3, ground := Go.Ground.data }, { on := 4, ground := Go.Ground.data }], guard := none }) (v := .slice a2 m c2) rfl (by kernel_rfl) (by kernel_rfl) (by kernel_rfl) (fun _ _ _ h => h) (Or.inl ⟨by rfl, by intro w hSw; (try dsimp only at hSw); go_simp⟩) (by assumption) ?_
        simp only [Act.put, List.setIfInBounds_toArray, List.set_cons_zero, List.set_cons_succ]
        refine wpAnyH_ready (rs := [6]) (by kernel_rfl) (by simp) ?_
        refine AllReadyH.cons (o := { dst := some 29, op := Go.Op.buildSlice 91 2 #[(0, Go.Operand.tmp 24), (1, Go.Operand.tmp 28)], type := 91, pos := "l13_journal.go:202", after := #[{ on := 1, ground := Go.Ground.data }, { on := 5, ground := Go.Ground.data }], guard := none }) rfl (fun K hK => ?_) AllReadyH.nil
        go_simp
        refine hK.out _ _ (keepS B1.out P0.out lb0 hbm) (fun hHeld => ?_)
        clear hK K
        try simp only [Act.put, List.setIfInBounds_toArray, List.set_cons_zero, List.set_cons_succ]
        refine wpAnyH_ready (rs := [7]) (by kernel_rfl) (by simp) ?_
        refine AllReadyH.cons (o := { dst := some 30, op := Go.Op.call { callee := Go.Callee.value (Go.Operand.func 68), args := #[Go.Operand.tmp 29], argTypes := #[91] }, type := 24, pos := "l13_journal.go:202", after := #[{ on := 6, ground := Go.Ground.data }], guard := none }) rfl (fun K hK => ?_) AllReadyH.nil
        go_simp
        go_at_call 68
        refine HCT.out.mono ?_
        rintro z w5 ⟨a5, c5, rfl, ho5, hb5⟩
        have hbb5 : Below w1.heap.size w1 w5 := hbm.trans (hb5.mono (by simp))
        have O5 := hid ho5
        have hK5 := keepS B1.out P0.out lb0 hbb5
        have l5 := hb5.size
        clear ho5 hb5
        go_wp2_with fail
        refine hK.out _ _ hK5 (fun hHeld => ?_)
        clear hK K
        try simp only [Act.put, List.setIfInBounds_toArray, List.set_cons_zero, List.set_cons_succ]
        refine wpAnyH_take (i := 8) (oi := { dst := some 6, op := Go.Op.assign (Go.Operand.tmp 30), type := 24, pos := "l13_journal.go:202", after := #[{ on := 7, ground := Go.Ground.data }, { on := 7, ground := Go.Ground.chain }, { on := 0, ground := Go.Ground.phase }, { on := 1, ground := Go.Ground.phase }, { on := 2, ground := Go.Ground.phase }, { on := 3, ground := Go.Ground.phase }, { on := 4, ground := Go.Ground.phase }, { on := 5, ground := Go.Ground.phase }, { on := 6, ground := Go.Ground.phase }, { on := 7, ground := Go.Ground.phase }], guard := none }) (v := .slice a5 p.length c5) rfl (by kernel_rfl) (by kernel_rfl) (by kernel_rfl) (fun _ _ _ h => h) (Or.inl ⟨by rfl, by intro w hSw; (try dsimp only at hSw); go_simp⟩) (by assumption) ?_
        simp only [Act.put, List.setIfInBounds_toArray, List.set_cons_zero, List.set_cons_succ]
        refine wpAnyH_done (by kernel_rfl) ?_ _
        have B5 := hid hK5.1
        have Q5 := hid ((hbb5.block _ (by omega)).trans P1.out)
        have hpl : p.length ≤ 2400 := by rw [HPL.out]; omega
        have l5b := hbb5.size
        have HWH := hid (implWhole w1.heap.size p (.slice a5 p.length c5) w5 (by omega) l5b (ob_mono O5.out (by simp)))
        have hrl := readL_le p
        have hTT : (p.take (readL p).2).length ≤ 2400 := by rw [List.length_take]; omega
        generalize p.take (readL p).2 = t at *
        clear hK5 hbb5 hbd hbm b0 b1 hHeld l5 hrl
        go_wp2_with fail
        refine HWH.out.mono ?_
        rintro e w6 ⟨a6, c6, rfl, ho6, hb6⟩
        have Q6 := hid ((hb6.block _ (by omega)).trans Q5.out)
        have B6 := hid (B5.out.trans (hb6.mono (by omega)))
        have O6 := hid ho6
        have l6 := hb6.size
        have HCN := hid (implCounted w6.heap.size t [] (.slice a6 t.length c6) (.slice none 0 0) w6 (by omega) (by simp) (Nat.le_refl _) ho6.at (at_nil _ _ _ _))
        clear hb6 ho6
        go_wp2_with fail
        refine HCN.out.mono ?_
        rintro e w7 ⟨rfl, hb7⟩
        have Q7 := hid ((hb7.block _ (by omega)).trans Q6.out)
        have B7 := hid (B6.out.trans (hb7.mono B6.out.size))
        have J7 : Hid (Jo w7 w1.heap.size (.slice a6 t.length c6) (.slice none 0 0) t []) := hid ⟨O6.out.below hb7 (Nat.le_refl _), ob_nil _ _, fun b _ h => by cases h⟩
        have t0 := blk_cell Q7.out (o := 0) (v := .int .i64 0) rfl
        have t1 := blk_cell Q7.out (o := 1) (v := .int .i64 0) rfl
        have t2 := blk_cell Q7.out (o := 2) (v := .slice none 0 0) rfl
        have t3 := blk_cell Q7.out (o := 3) (v := .slice none 0 0) rfl
        have f0 := blk_free (o := 0) Q7.out
        have f1 := blk_free (o := 1) Q7.out
        have f2 := blk_free (o := 2) Q7.out
        have f3 := blk_free (o := 3) Q7.out
        clear hb7
        go_wp2
        refine bodyPost_ret (results_cell_row Try.results42 _ _ (w.heap.size + 1) 49 #[.int .i64 0, .int .i64 (countN t [] : Int), .slice a6 t.length c6, .slice none ([] : List UInt8).length 0] (0, 0) _ rfl (set4 Q7.out _ _ _ _) Try.underlying49 rfl info4) rfl ?_
        rw [hR.out]
        exact jpost_so HKC.out rfl ((jo4 J7.out (by omega)).mono (by omega)) (below4 B7.out (by omega) _ _ _ _)
      · have HKC := hid (HK2.out hz (fun h => hk1 h.2))
        have q1 : ¬ k < 0 := by omega
        have q2 : (l.length : Int) < k := by omega
        clear hz hk0 hk1 HK1 HK2 HK3 HTO
        have t0 := blk_cell P1.out (o := 0) (v := .int .i64 0) rfl
        have t1 := blk_cell P1.out (o := 1) (v := .int .i64 0) rfl
        have t2 := blk_cell P1.out (o := 2) (v := .slice none 0 0) rfl
        have t3 := blk_cell P1.out (o := 3) (v := .slice none 0 0) rfl
        have f0 := blk_free (o := 0) P1.out
        have f1 := blk_free (o := 1) P1.out
        have f2 := blk_free (o := 2) P1.out
        have f3 := blk_free (o := 3) P1.out
        go_wp2
        refine bodyPost_ret (results_cell_row Try.results42 _ _ (w.heap.size + 1) 49 #[.int .i64 (3), .int .i64 0, .slice none 0 0, .slice none 0 0] (0, 0) _ rfl (set4 P1.out _ _ _ _) Try.underlying49 rfl info4) rfl ?_
        rw [hR.out]
        exact jpost_no (by rw [HKC.out]; decide) (by rw [HKC.out]) (below4 B1.out (by omega) _ _ _ _)
    · have HKC := hid (HK2.out hz (fun h => hk0 h.1))
      have q1 : k < 0 := by omega
      clear hz hk0 HK1 HK2 HK3 HTO
      have t0 := blk_cell P1.out (o := 0) (v := .int .i64 0) rfl
      have t1 := blk_cell P1.out (o := 1) (v := .int .i64 0) rfl
      have t2 := blk_cell P1.out (o := 2) (v := .slice none 0 0) rfl
      have t3 := blk_cell P1.out (o := 3) (v := .slice none 0 0) rfl
      have f0 := blk_free (o := 0) P1.out
      have f1 := blk_free (o := 1) P1.out
      have f2 := blk_free (o := 2) P1.out
      have f3 := blk_free (o := 3) P1.out
      go_wp2
      refine bodyPost_ret (results_cell_row Try.results42 _ _ (w.heap.size + 1) 49 #[.int .i64 (3), .int .i64 0, .slice none 0 0, .slice none 0 0] (0, 0) _ rfl (set4 P1.out _ _ _ _) Try.underlying49 rfl info4) rfl ?_
      rw [hR.out]
      exact jpost_no (by rw [HKC.out]; decide) (by rw [HKC.out]) (below4 B1.out (by omega) _ _ _ _)
  · have b9 : (f != 0) = true := by simpa using hz
    have HZ := hid hz
    have HKC := hid (HK1.out hz)
    have t0 := blk_cell P1.out (o := 0) (v := .int .i64 0) rfl
    have t1 := blk_cell P1.out (o := 1) (v := .int .i64 0) rfl
    have t2 := blk_cell P1.out (o := 2) (v := .slice none 0 0) rfl
    have t3 := blk_cell P1.out (o := 3) (v := .slice none 0 0) rfl
    have f0 := blk_free (o := 0) P1.out
    have f1 := blk_free (o := 1) P1.out
    have f2 := blk_free (o := 2) P1.out
    have f3 := blk_free (o := 3) P1.out
    clear hz
    go_wp2
    refine bodyPost_ret (results_cell_row Try.results42 _ _ (w.heap.size + 1) 49 #[.int .i64 (f), .int .i64 0, .slice none 0 0, .slice none 0 0] (0, 0) _ rfl (set4 P1.out _ _ _ _) Try.underlying49 rfl info4) rfl ?_
    rw [hR.out]
    exact jpost_no (by rw [HKC.out]; exact HZ.out) (by rw [HKC.out]) (below4 B1.out (by omega) _ _ _ _)
end Jn
end Go.Proofs.Ytiliahibnhfhoaa
