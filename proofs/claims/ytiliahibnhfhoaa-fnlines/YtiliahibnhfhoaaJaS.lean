/- SyncJournal and CrashJournal of the specification. No condition. -/
import Derived.Test.YtiliahibnhfhoaaJaA
namespace Go.Proofs.Ytiliahibnhfhoaa
open Go.RowKit
set_option linter.unusedVariables false
namespace Jn
set_option maxRecDepth 100000 in
set_option maxHeartbeats 8000000 in
theorem specSync (B : Nat) (s l : List UInt8) (v1 v2 : Value) (w : World) (h1 : s.length ≤ 1048576) (h2 : l.length ≤ 1048576) (hB : B ≤ w.heap.size) (ha1 : At w B v1 s) (ha2 : At w B v2 l) :
    Calls Try.prog 39 #[.agg #[v1, v2]] w (SYPost s l w) := by
  obtain ⟨a1, c1, rfl, _⟩ := ha1.slice
  obtain ⟨a2, c2, rfl, _⟩ := ha2.slice
  obtain ⟨hb0, hx0, hx1, hx2⟩ := two_blocks w #[.slice a1 s.length c1, .slice a2 l.length c2] #[.int .i64 0, .int .i64 0, .slice none 0 0, .slice none 0 0] 44 49
  have HA1 := hid (fun w' (hb : Below w.heap.size w w') => ha1.below hb hB)
  have HA2 := hid (fun w' (hb : Below w.heap.size w w') => ha2.below hb hB)
  have HB0 := hid hb0
  have HX0 := hid hx0
  have HX1 := hid hx1
  have HX2 := hid hx2
  have HF := hid (specFaultAt B w.heap.size s l _ _ _ h1 h2 (Nat.le_trans hB hb0.size) (ha1.below hb0 hB) (ha2.below hb0 hB) hx0)
  have HC := hid (fun h => of_jF (s := s) (l := l) h)
  obtain ⟨R, hR⟩ : ∃ R, Hid (R = SYPost s l w) := ⟨_, hid rfl⟩
  rw [← hR.out]
  unfold SYPost at hR
  generalize jF s l = f at *
  clear ha1 ha2 hb0 hx0 hx1 hx2
  go_enter Try.func39, Try.ntmps39
  go_wp2_with fail
  refine HF.out.mono ?_
  rintro e w1 ⟨rfl, hb1⟩
  have hB1 := HB0.out.trans (hb1.mono HB0.out.size)
  have hp0 := (hb1.block _ (by rw [HX2.out]; omega)).trans HX0.out
  have hp1 := (hb1.block _ (by rw [HX2.out]; omega)).trans HX1.out
  have l1 : w.heap.size + 1 + 1 ≤ w1.heap.size := by have := hb1.size; rw [HX2.out] at this; exact this
  have B1 := hid hB1
  have P0 := hid hp0
  have P1 := hid hp1
  clear hb1 HF HB0 HX0 HX1 HX2 hB1 hp0 hp1
  by_cases hz : f = 0
  · have b9 : (f != 0) = false := by simp [hz]
    have HZ := hid hz
    have HCC := hid (HC.out hz)
    have hsl := HCC.out.1
    have lb0 : w.heap.size < w1.heap.size := by omega
    have b0 := blk_cell P0.out (o := 0) (v := .slice a1 s.length c1) rfl
    have b1 := blk_cell P0.out (o := 1) (v := .slice a2 l.length c2) rfl
    have hbd : Below w1.heap.size w1 w1.drew := (Below.refl _ w1).drew
    have hbm : Below w1.heap.size w1 (w1.drew.alloc (.cells #[] 5)) := hbd.alloc (by simp) _
    have HM : Hid (Ob (w1.drew.alloc (.cells #[] 5)) w1.heap.size (.slice (some ⟨w1.heap.size, 0, none⟩) 0 0) []) := hid (ob_made w1.drew)
    clear hz
    go_wp2
    refine wp_region_held_drew (S := fun wx => Below w.heap.size w wx ∧ wx.heap[w.heap.size]? = some (.cells #[.slice a1 s.length c1, .slice a2 l.length c2] 44 (0, 0))) (by kernel_rfl) (keepS B1.out P0.out lb0 hbd) (fun hHeld => ?_)
    have hKd := keepS B1.out P0.out lb0 hbd
    refine wpAnyH_take (i := 1) (oi := { dst := some 10, op := Go.Op.fieldAddr 44 (Go.Operand.tmp 1) 0, type := 0, pos := "l13_journal.go:116", after := #[], guard := none }) (v := .pointer (some ⟨w.heap.size, 0, none⟩)) rfl (by kernel_rfl) (by kernel_rfl) (by kernel_rfl) (fun _ _ _ h => h) (Or.inl ⟨by rfl, by intro w hSw; (try dsimp only at hSw); go_simp⟩) (by assumption) ?_
    simp only [Act.put, List.setIfInBounds_toArray, List.set_cons_zero, List.set_cons_succ]
    refine wpAnyH_take (i := 2) (oi := { dst := some 11, op := Go.Op.load 24 (Go.Operand.tmp 10), type := 24, pos := "l13_journal.go:116", after := #[{ on := 1, ground := Go.Ground.data }], guard := none }) (v := .slice a1 s.length c1) rfl (by kernel_rfl) (by kernel_rfl) (by kernel_rfl) (fun _ _ _ h => h) (Or.inl ⟨by rfl, by intro w hSw; (try dsimp only at hSw); have ca := blk_cell hSw.2 (o := 0) (v := .slice a1 s.length c1) rfl; go_simp⟩) (by assumption) ?_
    simp only [Act.put, List.setIfInBounds_toArray, List.set_cons_zero, List.set_cons_succ]
    refine wpAnyH_take (i := 4) (oi := { dst := some 13, op := Go.Op.fieldAddr 44 (Go.Operand.tmp 1) 1, type := 0, pos := "l13_journal.go:116", after := #[], guard := none }) (v := .pointer (some ⟨w.heap.size, 1, none⟩)) rfl (by kernel_rfl) (by kernel_rfl) (by kernel_rfl) (fun _ _ _ h => h) (Or.inl ⟨by rfl, by intro w hSw; (try dsimp only at hSw); go_simp⟩) (by assumption) ?_
    simp only [Act.put, List.setIfInBounds_toArray, List.set_cons_zero, List.set_cons_succ]
    refine wpAnyH_take (i := 5) (oi := { dst := some 14, op := Go.Op.load 24 (Go.Operand.tmp 13), type := 24, pos := "l13_journal.go:116", after := #[{ on := 4, ground := Go.Ground.data }], guard := none }) (v := .slice a2 l.length c2) rfl (by kernel_rfl) (by kernel_rfl) (by kernel_rfl) (fun _ _ _ h => h) (Or.inl ⟨by rfl, by intro w hSw; (try dsimp only at hSw); have ca := blk_cell hSw.2 (o := 1) (v := .slice a2 l.length c2) rfl; go_simp⟩) (by assumption) ?_
    simp only [Act.put, List.setIfInBounds_toArray, List.set_cons_zero, List.set_cons_succ]
    refine wpAnyH_ready (rs := [0]) (by kernel_rfl) (by simp) ?_
    refine AllReadyH.cons (o := { dst := some 9, op := Go.Op.buildSlice 24 0 #[], type := 24, pos := "l13_journal.go:116", after := #[], guard := none }) rfl (fun K hK => ?_) AllReadyH.nil
    go_simp
    refine hK.out _ _ (keepS B1.out P0.out lb0 hbm) (fun hHeld => ?_)
    clear hK K
    try simp only [Act.put, List.setIfInBounds_toArray, List.set_cons_zero, List.set_cons_succ]
    have hKm := keepS B1.out P0.out lb0 hbm
    refine wpAnyH_ready (rs := [3]) (by kernel_rfl) (by simp) ?_
    refine AllReadyH.cons (o := { dst := some 12, op := Go.Op.call { callee := Go.Callee.builtin Go.Builtin.append, args := #[Go.Operand.tmp 9, Go.Operand.tmp 11], argTypes := #[24, 24] }, type := 24, pos := "l13_journal.go:116", after := #[{ on := 0, ground := Go.Ground.data }, { on := 2, ground := Go.Ground.data }], guard := none }) rfl (fun K hK => ?_) AllReadyH.nil
    refine stepL _ (by rfl) _ _ (by rfl) w1.heap.size (.slice (some ⟨w1.heap.size, 0, none⟩) 0 0) [] (by rfl) HM.out (.slice a1 s.length c1) s B (by rfl) (HA1.out _ (B1.out.trans (hbm.mono B1.out.size))) (by simp; omega) (by simp) ?_
    intro p4 a4 c4 w4 hG4
    have hb4 := hG4.low HM.out (by simp)
    have hbb4 : Below w1.heap.size w1 w4 := hbm.trans hb4
    have O4 := hid hG4.own
    have E4 := hid hG4.eq
    have hl4 := hbb4.size
    have hK4 := keepS B1.out P0.out lb0 hbb4
    refine hK.out _ _ hK4 (fun hHeld => ?_)
    clear hK K
    try simp only [Act.put, List.setIfInBounds_toArray, List.set_cons_zero, List.set_cons_succ]
    refine wpAnyH_ready (rs := [6]) (by kernel_rfl) (by simp) ?_
    refine AllReadyH.cons (o := { dst := some 15, op := Go.Op.call { callee := Go.Callee.builtin Go.Builtin.append, args := #[Go.Operand.tmp 12, Go.Operand.tmp 14], argTypes := #[24, 24] }, type := 24, pos := "l13_journal.go:116", after := #[{ on := 3, ground := Go.Ground.data }, { on := 5, ground := Go.Ground.data }, { on := 3, ground := Go.Ground.chain }], guard := none }) rfl (fun K hK => ?_) AllReadyH.nil
    refine stepL _ (by rfl) _ _ (by rfl) w1.heap.size (.slice a4 p4.length c4) p4 (by rfl) O4.out (.slice a2 l.length c2) l B (by rfl) (HA2.out _ (B1.out.trans (hbb4.mono B1.out.size))) (by rw [E4.out, List.nil_append]; omega) hl4 ?_
    intro p5 a5 c5 w5 hG5
    have hbb5 : Below w1.heap.size w1 w5 := hbb4.trans (hG5.low O4.out hl4)
    have O5 := hid hG5.own
    have E5 : Hid (p5 = s ++ l) := hid (by rw [hG5.eq, E4.out, List.nil_append])
    have hK5 := keepS B1.out P0.out lb0 hbb5
    clear hG4 hG5
    refine hK.out _ _ hK5 (fun hHeld => ?_)
    clear hK K
    try simp only [Act.put, List.setIfInBounds_toArray, List.set_cons_zero, List.set_cons_succ]
    have H6 := hid (specOf w5.heap.size p5 [] (.slice a5 p5.length c5) (.slice none 0 0) w5 (by rw [E5.out, List.length_append]; omega) (by simp) (Nat.le_refl _) O5.out.at (at_nil _ _ _ _))
    unfold JPost at H6
    refine wpAnyH_ready (rs := [7]) (by kernel_rfl) (by simp) ?_
    refine AllReadyH.cons (o := { dst := some 16, op := Go.Op.call { callee := Go.Callee.value (Go.Operand.func 65), args := #[Go.Operand.tmp 15, Go.Operand.const (Go.Value.slice none 0 0)], argTypes := #[24, 24] }, type := 49, pos := "l13_journal.go:116", after := #[{ on := 6, ground := Go.Ground.data }, { on := 6, ground := Go.Ground.chain }], guard := none }) rfl (fun K hK => ?_) AllReadyH.nil
    go_simp
    go_at_call 65
    refine H6.out.mono ?_
    rintro z w6 ⟨a6, k6, a7, k7, rfl, hj6, hb6⟩
    have hbb6 : Below w1.heap.size w1 w6 := hbb5.trans (hb6.mono hbb5.size)
    have J6 := hid hj6
    have hs5 := hbb5.size
    have Q6 : Hid (w6.heap[w.heap.size + 1]? = some (.cells #[.int .i64 0, .int .i64 0, .slice none 0 0, .slice none 0 0] 49 (0, 0))) := hid ((hbb6.block _ (by omega)).trans P1.out)
    have t0 := blk_cell Q6.out (o := 0) (v := .int .i64 0) rfl
    have t1 := blk_cell Q6.out (o := 1) (v := .int .i64 0) rfl
    have t2 := blk_cell Q6.out (o := 2) (v := .slice none 0 0) rfl
    have t3 := blk_cell Q6.out (o := 3) (v := .slice none 0 0) rfl
    have f0 := blk_free (o := 0) Q6.out
    have f1 := blk_free (o := 1) Q6.out
    have f2 := blk_free (o := 2) Q6.out
    have f3 := blk_free (o := 3) Q6.out
    have hK6 := keepS B1.out P0.out lb0 hbb6
    clear hj6 hb6
    go_wp2_with fail
    refine hK.out _ _ hK6 (fun hHeld => ?_)
    clear hK K
    try simp only [Act.put, List.setIfInBounds_toArray, List.set_cons_zero, List.set_cons_succ]
    have B7 : Hid (Below w.heap.size w w6) := hid (B1.out.trans (hbb6.mono B1.out.size))
    have K7 := hid (fun a0 a1 a2 a3 => set4 (b := w.heap.size + 1) Q6.out a0 a1 a2 a3)
    refine wpAnyH_ready (rs := [8]) (by kernel_rfl) (by simp) ?_
    refine AllReadyH.cons (o := { dst := none, op := Go.Op.store 49 (Go.Operand.tmp 2) (Go.Operand.tmp 16), type := 0, pos := "l13_journal.go:116", after := #[{ on := 7, ground := Go.Ground.data }, { on := 7, ground := Go.Ground.chain }, { on := 0, ground := Go.Ground.phase }, { on := 1, ground := Go.Ground.phase }, { on := 2, ground := Go.Ground.phase }, { on := 3, ground := Go.Ground.phase }, { on := 4, ground := Go.Ground.phase }, { on := 5, ground := Go.Ground.phase }, { on := 6, ground := Go.Ground.phase }, { on := 7, ground := Go.Ground.phase }], guard := none }) rfl (fun K hK => ?_) AllReadyH.nil
    go_simp
    refine hK.out _ _ (keep4 hK6 (by omega) (by omega) _ _ _ _) (fun hHeld => ?_)
    clear hK K
    try simp only [Act.put, List.setIfInBounds_toArray, List.set_cons_zero, List.set_cons_succ]
    refine wpAnyH_done (by kernel_rfl) ?_ _
    go_wp2
    refine bodyPost_ret (results_cell_row Try.results39 _ _ (w.heap.size + 1) 49 #[.int .i64 0, .int .i64 (countN p5 [] : Int), .slice a6 p5.length k6, .slice a7 ([] : List UInt8).length k7] (0, 0) _ rfl (set4 Q6.out _ _ _ _) Try.underlying49 rfl info4) rfl ?_
    rw [hR.out, ← E5.out]
    exact jpost_so HZ.out rfl ((jo4 J6.out (by omega)).mono (by omega)) (below4 B7.out (by omega) _ _ _ _)
  · have b9 : (f != 0) = true := by simpa using hz
    have HZ := hid hz
    have t0 := blk_cell P1.out (o := 0) (v := .int .i64 0) rfl
    have t1 := blk_cell P1.out (o := 1) (v := .int .i64 0) rfl
    have t2 := blk_cell P1.out (o := 2) (v := .slice none 0 0) rfl
    have t3 := blk_cell P1.out (o := 3) (v := .slice none 0 0) rfl
    have f0 := blk_free (o := 0) P1.out
    have f1 := blk_free (o := 1) P1.out
    have f2 := blk_free (o := 2) P1.out
    have f3 := blk_free (o := 3) P1.out
    clear hz
    go_wp2
    refine bodyPost_ret (results_cell_row Try.results39 _ _ (w.heap.size + 1) 49 #[.int .i64 (f), .int .i64 0, .slice none 0 0, .slice none 0 0] (0, 0) _ rfl (set4 P1.out _ _ _ _) Try.underlying49 rfl info4) rfl ?_
    rw [hR.out]
    exact jpost_no HZ.out rfl (below4 B1.out (by omega) _ _ _ _)
theorem specIn1 (x a b : Int) (w : World) : Calls Try.prog 70 #[.int .i64 x, .int .i64 a, .int .i64 b] w fun e w' => e = .returned (.bool (decide (a ≤ x ∧ x ≤ b))) ∧ w' = w := by
  by_cases h1 : a ≤ x
  · by_cases h2 : x ≤ b
    · rw [decide_eq_true (And.intro h1 h2)]
      go_enter Try.func70, Try.ntmps70
      go_wp2
      go_ret
      exact ⟨rfl, rfl⟩
    · rw [decide_eq_false (fun h => h2 h.2)]
      go_enter Try.func70, Try.ntmps70
      go_wp2
      go_ret
      exact ⟨rfl, rfl⟩
  · rw [decide_eq_false (fun h => h1 h.1)]
    go_enter Try.func70, Try.ntmps70
    go_wp2
    go_ret
    exact ⟨rfl, rfl⟩
set_option maxRecDepth 100000 in
set_option maxHeartbeats 8000000 in
theorem specCrash (B : Nat) (s l : List UInt8) (k : Int) (v1 v2 : Value) (w : World) (h1 : s.length ≤ 1048576) (h2 : l.length ≤ 1048576) (hB : B ≤ w.heap.size) (ha1 : At w B v1 s) (ha2 : At w B v2 l) :
    Calls Try.prog 41 #[.agg #[v1, v2], .int .i64 k] w (CRPost s l k w) := by
  obtain ⟨a1, c1, rfl, _⟩ := ha1.slice
  obtain ⟨a2, c2, rfl, _⟩ := ha2.slice
  obtain ⟨hb0, hx0, hx1, hx2⟩ := two_blocks w #[.slice a1 s.length c1, .slice a2 l.length c2] #[.int .i64 0, .int .i64 0, .slice none 0 0, .slice none 0 0] 44 49
  have HA1 := hid (fun w' (hb : Below w.heap.size w w') => ha1.below hb hB)
  have HA2 := hid (fun w' (hb : Below w.heap.size w w') => ha2.below hb hB)
  have HB0 := hid hb0
  have HX0 := hid hx0
  have HX1 := hid hx1
  have HX2 := hid hx2
  have HF := hid (specFaultAt B w.heap.size s l _ _ _ h1 h2 (Nat.le_trans hB hb0.size) (ha1.below hb0 hB) (ha2.below hb0 hB) hx0)
  have HC := hid (fun h => of_jF (s := s) (l := l) h)
  have HI := hid (fun w' => specIn1 k 0 (l.length : Int) w')
  obtain ⟨R, hR⟩ : ∃ R, Hid (R = CRPost s l k w) := ⟨_, hid rfl⟩
  rw [← hR.out]
  have HK1 := hid (fun h => kC_1 (s := s) (l := l) (k := k) h)
  have HK2 := hid (fun h h2 => kC_2 (s := s) (l := l) (k := k) h h2)
  have HK3 := hid (fun h h2 => kC_3 (s := s) (l := l) (k := k) h h2)
  unfold CRPost at hR
  generalize kC s l k = kc at *
  generalize jF s l = f at *
  have HTO := hid (fun m hm => ha2.to m hm)
  clear ha1 ha2 hb0 hx0 hx1 hx2
  go_enter Try.func41, Try.ntmps41
  go_wp2_with fail
  refine HF.out.mono ?_
  rintro e w1 ⟨rfl, hb1⟩
  have hB1 := HB0.out.trans (hb1.mono HB0.out.size)
  have hp0 := (hb1.block _ (by rw [HX2.out]; omega)).trans HX0.out
  have hp1 := (hb1.block _ (by rw [HX2.out]; omega)).trans HX1.out
  have l1 : w.heap.size + 1 + 1 ≤ w1.heap.size := by have := hb1.size; rw [HX2.out] at this; exact this
  have B1 := hid hB1
  have P0 := hid hp0
  have P1 := hid hp1
  clear hb1 HF HB0 HX0 HX1 HX2 hB1 hp0 hp1
  by_cases hz : f = 0
  · have b9 : (f != 0) = false := by simp [hz]
    have HZ := hid hz
    have HCC := hid (HC.out hz)
    have hsl := HCC.out.1
    have lb0 : w.heap.size < w1.heap.size := by omega
    have b0 := blk_cell P0.out (o := 0) (v := .slice a1 s.length c1) rfl
    have b1 := blk_cell P0.out (o := 1) (v := .slice a2 l.length c2) rfl
    have hbd : Below w1.heap.size w1 w1.drew := (Below.refl _ w1).drew
    have hbm : Below w1.heap.size w1 (w1.drew.alloc (.cells #[] 5)) := hbd.alloc (by simp) _
    have HM : Hid (Ob (w1.drew.alloc (.cells #[] 5)) w1.heap.size (.slice (some ⟨w1.heap.size, 0, none⟩) 0 0) []) := hid (ob_made w1.drew)
    by_cases hk : 0 ≤ k ∧ k ≤ (l.length : Int)
    · have HKC := hid (HK3.out hz hk)
      rw [decide_eq_true hk] at HI
      obtain ⟨m, hm⟩ : ∃ m : Nat, k = (m : Int) := ⟨k.toNat, by omega⟩
      have hml : m ≤ l.length := by omega
      subst hm
      obtain ⟨a9, hsl9, hat9, h9⟩ := HTO.out m hml
      rw [h9] at hsl9 hat9
      have HTK := hid hat9
      have HTL : Hid ((l.take m).length = m) := hid (by rw [List.length_take]; omega)
      clear hz hk hat9 HK1 HK2 HK3 HTO
      go_wp2_with fail
      refine (HI.out _).mono ?_
      rintro e w2 ⟨rfl, hw⟩
      replace hw := hw.symm
      subst hw
      go_wp2_with fail
      refine wp_region_held_drew (S := fun wx => Below w.heap.size w wx ∧ wx.heap[w.heap.size]? = some (.cells #[.slice a1 s.length c1, .slice a2 l.length c2] 44 (0, 0))) (by kernel_rfl) (keepS B1.out P0.out lb0 hbd) (fun hHeld => ?_)
      have hKd := keepS B1.out P0.out lb0 hbd
      refine wpAnyH_take (i := 1) (oi := { dst := some 22, op := Go.Op.fieldAddr 44 (Go.Operand.tmp 2) 0, type := 0, pos := "l13_journal.go:126", after := #[], guard := none }) (v := .pointer (some ⟨w.heap.size, 0, none⟩)) rfl (by kernel_rfl) (by kernel_rfl) (by kernel_rfl) (fun _ _ _ h => h) (Or.inl ⟨by rfl, by intro w hSw; (try dsimp only at hSw); go_simp⟩) (by assumption) ?_
      simp only [Act.put, List.setIfInBounds_toArray, List.set_cons_zero, List.set_cons_succ]
      refine wpAnyH_take (i := 2) (oi := { dst := some 23, op := Go.Op.load 24 (Go.Operand.tmp 22), type := 24, pos := "l13_journal.go:126", after := #[{ on := 1, ground := Go.Ground.data }], guard := none }) (v := .slice a1 s.length c1) rfl (by kernel_rfl) (by kernel_rfl) (by kernel_rfl) (fun _ _ _ h => h) (Or.inl ⟨by rfl, by intro w hSw; (try dsimp only at hSw); have ca := blk_cell hSw.2 (o := 0) (v := .slice a1 s.length c1) rfl; go_simp⟩) (by assumption) ?_
      simp only [Act.put, List.setIfInBounds_toArray, List.set_cons_zero, List.set_cons_succ]
      refine wpAnyH_take (i := 4) (oi := { dst := some 25, op := Go.Op.fieldAddr 44 (Go.Operand.tmp 2) 1, type := 0, pos := "l13_journal.go:126", after := #[], guard := none }) (v := .pointer (some ⟨w.heap.size, 1, none⟩)) rfl (by kernel_rfl) (by kernel_rfl) (by kernel_rfl) (fun _ _ _ h => h) (Or.inl ⟨by rfl, by intro w hSw; (try dsimp only at hSw); go_simp⟩) (by assumption) ?_
      simp only [Act.put, List.setIfInBounds_toArray, List.set_cons_zero, List.set_cons_succ]
      refine wpAnyH_take (i := 5) (oi := { dst := some 26, op := Go.Op.load 24 (Go.Operand.tmp 25), type := 24, pos := "l13_journal.go:126", after := #[{ on := 4, ground := Go.Ground.data }], guard := none }) (v := .slice a2 l.length c2) rfl (by kernel_rfl) (by kernel_rfl) (by kernel_rfl) (fun _ _ _ h => h) (Or.inl ⟨by rfl, by intro w hSw; (try dsimp only at hSw); have ca := blk_cell hSw.2 (o := 1) (v := .slice a2 l.length c2) rfl; go_simp⟩) (by assumption) ?_
      simp only [Act.put, List.setIfInBounds_toArray, List.set_cons_zero, List.set_cons_succ]
      refine wpAnyH_take (i := 6) (oi := { dst := some 27, op := Go.Op.move (Go.Operand.tmp 1), type := 2, pos := "l13_journal.go:126", after := #[], guard := none }) (v := .int .i64 (m : Int)) rfl (by kernel_rfl) (by kernel_rfl) (by kernel_rfl) (fun _ _ _ h => h) (Or.inl ⟨by rfl, by intro w hSw; (try dsimp only at hSw); go_simp⟩) (by assumption) ?_
      simp only [Act.put, List.setIfInBounds_toArray, List.set_cons_zero, List.set_cons_succ]
      refine wpAnyH_take (i := 7) (oi := { dst := some 28, op := Go.Op.slice 24 (Go.Operand.tmp 26) none (some (Go.Operand.tmp 27)) none, type := 24, pos := "l13_journal.go:126", after := #[{ on := 5, ground := Go.Ground.data }, { on := 6, ground := Go.Ground.data }], guard := none }) (v := .slice a2 m c2) rfl (by kernel_rfl) (by kernel_rfl) (by kernel_rfl) (fun _ _ _ h => h) (Or.inl ⟨by rfl, by intro w hSw; (try dsimp only at hSw); go_simp⟩) (by assumption) ?_
      simp only [Act.put, List.setIfInBounds_toArray, List.set_cons_zero, List.set_cons_succ]
      refine wpAnyH_ready (rs := [0]) (by kernel_rfl) (by simp) ?_
      refine AllReadyH.cons (o := { dst := some 21, op := Go.Op.buildSlice 24 0 #[], type := 24, pos := "l13_journal.go:126", after := #[], guard := none }) rfl (fun K hK => ?_) AllReadyH.nil
      go_simp
      refine hK.out _ _ (keepS B1.out P0.out lb0 hbm) (fun hHeld => ?_)
      clear hK K
      try simp only [Act.put, List.setIfInBounds_toArray, List.set_cons_zero, List.set_cons_succ]
      have hKm := keepS B1.out P0.out lb0 hbm
      refine wpAnyH_ready (rs := [3]) (by kernel_rfl) (by simp) ?_
      refine AllReadyH.cons (o := { dst := some 24, op := Go.Op.call { callee := Go.Callee.builtin Go.Builtin.append, args := #[Go.Operand.tmp 21, Go.Operand.tmp 23], argTypes := #[24, 24] }, type := 24, pos := "l13_journal.go:126", after := #[{ on := 0, ground := Go.Ground.data }, { on := 2, ground := Go.Ground.data }], guard := none }) rfl (fun K hK => ?_) AllReadyH.nil
      refine stepL _ (by rfl) _ _ (by rfl) w1.heap.size (.slice (some ⟨w1.heap.size, 0, none⟩) 0 0) [] (by rfl) HM.out (.slice a1 s.length c1) s B (by rfl) (HA1.out _ (B1.out.trans (hbm.mono B1.out.size))) (by simp; omega) (by simp) ?_
      intro p4 a4 c4 w4 hG4
      have hb4 := hG4.low HM.out (by simp)
      have hbb4 : Below w1.heap.size w1 w4 := hbm.trans hb4
      have O4 := hid hG4.own
      have E4 := hid hG4.eq
      have hl4 := hbb4.size
      have hK4 := keepS B1.out P0.out lb0 hbb4
      refine hK.out _ _ hK4 (fun hHeld => ?_)
      clear hK K
      try simp only [Act.put, List.setIfInBounds_toArray, List.set_cons_zero, List.set_cons_succ]
      refine wpAnyH_ready (rs := [8]) (by kernel_rfl) (by simp) ?_
      refine AllReadyH.cons (o := { dst := some 29, op := Go.Op.call { callee := Go.Callee.builtin Go.Builtin.append, args := #[Go.Operand.tmp 24, Go.Operand.tmp 28], argTypes := #[24, 24] }, type := 24, pos := "l13_journal.go:126", after := #[{ on := 3, ground := Go.Ground.data }, { on := 7, ground := Go.Ground.data }, { on := 3, ground := Go.Ground.chain }], guard := none }) rfl (fun K hK => ?_) AllReadyH.nil
      refine stepL _ (by rfl) _ _ (by rfl) w1.heap.size (.slice a4 p4.length c4) p4 (by rfl) O4.out (.slice a2 m c2) (l.take m) B (by rfl) (HTK.out.below (B1.out.trans (hbb4.mono B1.out.size)) hB) (by rw [E4.out, List.nil_append, HTL.out]; omega) hl4 ?_
      intro p5 a5 c5 w5 hG5
      have hbb5 : Below w1.heap.size w1 w5 := hbb4.trans (hG5.low O4.out hl4)
      have O5 := hid hG5.own
      have E5 : Hid (p5 = s ++ l.take m) := hid (by rw [hG5.eq, E4.out, List.nil_append])
      have hK5 := keepS B1.out P0.out lb0 hbb5
      clear hG4 hG5
      refine hK.out _ _ hK5 (fun hHeld => ?_)
      clear hK K
      try simp only [Act.put, List.setIfInBounds_toArray, List.set_cons_zero, List.set_cons_succ]
      refine wpAnyH_take (i := 9) (oi := { dst := some 6, op := Go.Op.assign (Go.Operand.tmp 29), type := 24, pos := "l13_journal.go:126", after := #[{ on := 8, ground := Go.Ground.data }, { on := 8, ground := Go.Ground.chain }, { on := 0, ground := Go.Ground.phase }, { on := 1, ground := Go.Ground.phase }, { on := 2, ground := Go.Ground.phase }, { on := 3, ground := Go.Ground.phase }, { on := 4, ground := Go.Ground.phase }, { on := 5, ground := Go.Ground.phase }, { on := 6, ground := Go.Ground.phase }, { on := 7, ground := Go.Ground.phase }, { on := 8, ground := Go.Ground.phase }], guard := none }) (v := .slice a5 p5.length c5) rfl (by kernel_rfl) (by kernel_rfl) (by kernel_rfl) (fun _ _ _ h => h) (Or.inl ⟨by rfl, by intro w hSw; (try dsimp only at hSw); go_simp⟩) (by assumption) ?_
      simp only [Act.put, List.setIfInBounds_toArray, List.set_cons_zero, List.set_cons_succ]
      refine wpAnyH_done (by kernel_rfl) ?_ _
      have B5 := hid hK5.1
      have Q5 : Hid (w5.heap[w.heap.size + 1]? = some (.cells #[.int .i64 0, .int .i64 0, .slice none 0 0, .slice none 0 0] 49 (0, 0))) := hid ((hbb5.block _ (by omega)).trans P1.out)
      have hs5 := hbb5.size
      have hpl : p5.length ≤ 2400 := by rw [E5.out, List.length_append, HTL.out]; omega
      have HL5 := hid (specLines w5.heap.size p5 (.slice a5 p5.length c5) w5 (by omega) (Nat.le_refl _) O5.out.at)
      unfold LPost at HL5
      have hrl := readL_le p5
      have HN : Hid ((readL p5).2 = (readL p5).2) := hid rfl
      obtain ⟨n, hn⟩ : ∃ n, Hid (n = (readL p5).2) := ⟨_, hid rfl⟩
      rw [← hn.out] at HL5 hrl
      generalize (readL p5).1 = ls at *
      clear hK5 hKd hKm hK4 hbb4 hbb5 hbd hbm b0 b1 hHeld
      go_wp2_with fail
      refine HL5.out.mono ?_
      rintro e w6 ⟨a6, c6, rfl, _, hb6⟩
      have O6 := hid (O5.out.below hb6 (Nat.le_refl _))
      have Q6 := hid ((hb6.block _ (by omega)).trans Q5.out)
      have B6 := hid (B5.out.trans (hb6.mono B5.out.size))
      have hs6 := hb6.size
      obtain ⟨a7, hsl7, hat7, h7⟩ := O6.out.at.to n hrl
      rw [h7] at hsl7 hat7
      have HPT : Hid ((p5.take n).length = n) := hid (by rw [List.length_take]; omega)
      have HOF := hid (specOf w6.heap.size (p5.take n) [] (.slice a5 n c5) (.slice none 0 0) w6 (by rw [HPT.out]; omega) (by simp) (Nat.le_refl _) hat7 (at_nil _ _ _ _))
      have HPN : Hid (p5.take n = cutL s l (m : Int)) := hid (by unfold cutL; rw [hn.out, E5.out, Int.toNat_natCast])
      generalize p5.take n = p6 at *
      unfold JPost at HOF
      clear hb6 hat7 h7 hn
      go_wp2_with fail
      refine HOF.out.mono ?_
      rintro e w7 ⟨a8, k8, a9, k9, rfl, hj7, hb7⟩
      have Q7 := hid ((hb7.block _ (by omega)).trans Q6.out)
      have B7 := hid (B6.out.trans (hb7.mono B6.out.size))
      have J7 := hid hj7
      have t0 := blk_cell Q7.out (o := 0) (v := .int .i64 0) rfl
      have t1 := blk_cell Q7.out (o := 1) (v := .int .i64 0) rfl
      have t2 := blk_cell Q7.out (o := 2) (v := .slice none 0 0) rfl
      have t3 := blk_cell Q7.out (o := 3) (v := .slice none 0 0) rfl
      have f0 := blk_free (o := 0) Q7.out
      have f1 := blk_free (o := 1) Q7.out
      have f2 := blk_free (o := 2) Q7.out
      have f3 := blk_free (o := 3) Q7.out
      clear hj7 hb7
      go_wp2
      refine bodyPost_ret (results_cell_row Try.results41 _ _ (w.heap.size + 1) 49 #[.int .i64 0, .int .i64 (countN p6 [] : Int), .slice a8 p6.length k8, .slice a9 ([] : List UInt8).length k9] (0, 0) _ rfl (set4 Q7.out _ _ _ _) Try.underlying49 rfl info4) rfl ?_
      rw [hR.out, ← HPN.out]
      exact jpost_so HKC.out rfl ((jo4 J7.out (by omega)).mono (by omega)) (below4 B7.out (by omega) _ _ _ _)
    · have HKC := hid (HK2.out hz hk)
      rw [decide_eq_false hk] at HI
      clear hz hk HK1 HK2 HK3 HTO
      go_wp2_with fail
      refine (HI.out _).mono ?_
      rintro e w2 ⟨rfl, hw⟩
      replace hw := hw.symm
      subst hw
      have t0 := blk_cell P1.out (o := 0) (v := .int .i64 0) rfl
      have t1 := blk_cell P1.out (o := 1) (v := .int .i64 0) rfl
      have t2 := blk_cell P1.out (o := 2) (v := .slice none 0 0) rfl
      have t3 := blk_cell P1.out (o := 3) (v := .slice none 0 0) rfl
      have f0 := blk_free (o := 0) P1.out
      have f1 := blk_free (o := 1) P1.out
      have f2 := blk_free (o := 2) P1.out
      have f3 := blk_free (o := 3) P1.out
      go_wp2
      refine bodyPost_ret (results_cell_row Try.results41 _ _ (w.heap.size + 1) 49 #[.int .i64 (3), .int .i64 0, .slice none 0 0, .slice none 0 0] (0, 0) _ rfl (set4 P1.out _ _ _ _) Try.underlying49 rfl info4) rfl ?_
      rw [hR.out]
      exact jpost_no (by rw [HKC.out]; decide) (by rw [HKC.out]) (below4 B1.out (by omega) _ _ _ _)
  · have b9 : (f != 0) = true := by simpa using hz
    have HZ := hid hz
    have HKC := hid (HK1.out hz)
    have t0 := blk_cell P1.out (o := 0) (v := .int .i64 0) rfl
    have t1 := blk_cell P1.out (o := 1) (v := .int .i64 0) rfl
    have t2 := blk_cell P1.out (o := 2) (v := .slice none 0 0) rfl
    have t3 := blk_cell P1.out (o := 3) (v := .slice none 0 0) rfl
    have f0 := blk_free (o := 0) P1.out
    have f1 := blk_free (o := 1) P1.out
    have f2 := blk_free (o := 2) P1.out
    have f3 := blk_free (o := 3) P1.out
    clear hz
    go_wp2
    refine bodyPost_ret (results_cell_row Try.results41 _ _ (w.heap.size + 1) 49 #[.int .i64 (f), .int .i64 0, .slice none 0 0, .slice none 0 0] (0, 0) _ rfl (set4 P1.out _ _ _ _) Try.underlying49 rfl info4) rfl ?_
    rw [hR.out]
    exact jpost_no (by rw [HKC.out]; exact HZ.out) (by rw [HKC.out]) (below4 B1.out (by omega) _ _ _ _)
end Jn
end Go.Proofs.Ytiliahibnhfhoaa
