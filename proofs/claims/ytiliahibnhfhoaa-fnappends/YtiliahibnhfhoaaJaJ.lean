/- AppendLine of the program. No condition. -/
import Derived.Test.YtiliahibnhfhoaaJaI
namespace Go.Proofs.Ytiliahibnhfhoaa
open Go.RowKit
set_option linter.unusedVariables false
namespace Jn
set_option maxRecDepth 100000 in
set_option maxHeartbeats 16000000 in
theorem implAppend (B : Nat) (s l x : List UInt8) (v1 v2 : Value) (w : World) (h1 : s.length ≤ 1048576) (h2 : l.length ≤ 1048576) (h3 : x.length ≤ 1048576) (hB : B ≤ w.heap.size) (ha1 : At w B v1 s) (ha2 : At w B v2 l) :
    Calls Try.prog 34 #[.agg #[v1, v2], .string (str x)] w (APPost s l x w) := by
  obtain ⟨a1, c1, rfl, _⟩ := ha1.slice
  obtain ⟨a2, c2, rfl, _⟩ := ha2.slice
  obtain ⟨hb0, hx0, hx1, hx2⟩ := two_blocks w #[.slice a1 s.length c1, .slice a2 l.length c2] #[.int .i64 0, .int .i64 0, .slice none 0 0, .slice none 0 0] 44 49
  have HA1 := hid (fun w' (hb : Below w.heap.size w w') => ha1.below hb hB)
  have HA2 := hid (fun w' (hb : Below w.heap.size w w') => ha2.below hb hB)
  have HB0 := hid hb0
  have HX0 := hid hx0
  have HX1 := hid hx1
  have HX2 := hid hx2
  have HF := hid (implJFault B s l _ _ _ h1 h2 (Nat.le_trans hB hb0.size) (ha1.below hb0 hB) (ha2.below hb0 hB))
  have HC := hid (fun h => of_jF (s := s) (l := l) h)
  have HPK := hid (fun w' => implPackLine x w' h3)
  have HFL := hid (fun h => fault_len (s := x) h)
  obtain ⟨R, hR⟩ : ∃ R, Hid (R = APPost s l x w) := ⟨_, hid rfl⟩
  rw [← hR.out]
  have HK1 := hid (fun h => aC_1 (s := s) (l := l) (x := x) h)
  have HK2 := hid (fun h h2 => aC_2 (s := s) (l := l) (x := x) h h2)
  have HK3 := hid (fun h h2 h3 => aC_3 (s := s) (l := l) (x := x) h h2 h3)
  have HK4 := hid (fun h h2 h3 => aC_4 (s := s) (l := l) (x := x) h h2 h3)
  unfold APPost at hR
  unfold RPost at HPK
  have HPL := hid (pack_len x)
  have HPE := hid (fun h => packR_ok (l := x) h)
  generalize aC s l x = kc at *
  generalize jF s l = f at *
  generalize faultC x = fx at *
  generalize packR x = px at *
  generalize str x = sx at *
  clear ha1 ha2 hb0 hx0 hx1 hx2
  go_enter Try.func34, Try.ntmps34
  go_wp2_with fail
  refine HF.out.mono ?_
  rintro e w1 ⟨rfl, hb1⟩
  have hB1 := HB0.out.trans (hb1.mono HB0.out.size)
  have hp0 := (hb1.block _ (by rw [HX2.out]; omega)).trans HX0.out
  have hp1 := (hb1.block _ (by rw [HX2.out]; omega)).trans HX1.out
  have l1 : w.heap.size + 1 + 1 ≤ w1.heap.size := by have := hb1.size; rw [HX2.out] at this; exact this
  have B1 := hid hB1
  have P0 := hid hp0
  have P1 := hid hp1
  clear hb1 HF HB0 HX0 HX1 HX2 hB1 hp0 hp1
  by_cases hz : f = 0
  · have b9 : (f != 0) = false := by simp [hz]
    have HZ := hid hz
    have HCC := hid (HC.out hz)
    have hsl := HCC.out.1
    have lb0 : w.heap.size < w1.heap.size := by omega
    clear hz
    go_wp2_with fail
    refine (HPK.out _).mono ?_
    rintro e w2 ⟨a3, k3, rfl, ho2, hb2⟩
    have hB2 := B1.out.trans (hb2.mono B1.out.size)
    have l2 := hb2.size
    have hp2 := (hb2.block _ (by omega)).trans P0.out
    have hq2 := (hb2.block _ (by omega)).trans P1.out
    obtain ⟨w3, hw3⟩ : ∃ w3, w3 = w2.alloc (.cells #[.int .i64 fx, .slice a3 px.length k3] 26) := ⟨_, rfl⟩
    obtain ⟨g6, hg6⟩ : ∃ g6, g6 = w2.heap.size := ⟨_, rfl⟩
    have B3 : Hid (Below w.heap.size w w3) := hid (by rw [hw3]; exact hB2.alloc hB2.size _)
    have P3 : Hid (w3.heap[w.heap.size]? = some (.cells #[.slice a1 s.length c1, .slice a2 l.length c2] 44 (0, 0))) := hid (by rw [hw3]; exact (Below.heap_alloc _ _ _ (by omega)).trans hp2)
    have Q3 : Hid (w3.heap[w.heap.size + 1]? = some (.cells #[.int .i64 0, .int .i64 0, .slice none 0 0, .slice none 0 0] 49 (0, 0))) := hid (by rw [hw3]; exact (Below.heap_alloc _ _ _ (by omega)).trans hq2)
    have V3 : Hid (w3.heap[g6]? = some (.cells #[.int .i64 fx, .slice a3 px.length k3] 26 (0, 0))) := hid (by rw [hw3, hg6]; exact heap_alloc_new w2 _)
    have l3 : w2.heap.size < w3.heap.size := by rw [hw3]; simp
    have HX3 : Hid (At w3 w3.heap.size (.slice a3 px.length k3) px) := hid (by rw [hw3]; exact (ho2.below ((Below.refl w2.heap.size w2).alloc (Nat.le_refl _) _) (Nat.le_refl _)).at)
    have lg6 : g6 < w3.heap.size := by omega
    have lg7 : w.heap.size + 1 < g6 := by omega
    have HS3 := hid ((HA1.out _ B3.out).mono (show B ≤ w3.heap.size by omega))
    have HL3 := hid ((HA2.out _ B3.out).mono (show B ≤ w3.heap.size by omega))
    by_cases hx : fx = 0
    · have b8 : (fx != 0) = false := by simp [hx]
      have HX := hid hx
      have HXL := hid (HFL.out hx)
      have hxl := HXL.out.2
      have HPX := hid (HPE.out hx)
      have hpx : px.length ≤ 43 := by rw [HPX.out, HPL.out]; omega
      have HPN : Hid (px.length = x.length + 3) := hid (by rw [HPX.out, HPL.out])
      rw [← HPX.out] at hR
      clear hb2 ho2 hB2 hp2 hq2 hx
      have m0 := blk_cell V3.out (o := 0) (v := .int .i64 fx) rfl
      have m1 := blk_cell V3.out (o := 1) (v := .slice a3 px.length k3) rfl
      have b0 := blk_cell P3.out (o := 0) (v := .slice a1 s.length c1) rfl
      have b1 := blk_cell P3.out (o := 1) (v := .slice a2 l.length c2) rfl
      rw [hw3, hg6] at m0 m1
      rw [hw3] at b0 b1
      by_cases hm : 2400 < s.length + (l.length + px.length)
      · have q1 : (2400 : Int) - (s.length : Int) - (l.length : Int) < (px.length : Int) := by omega
        have HKC := hid (HK3.out HZ.out HX.out (by rw [← HPN.out]; exact hm))
        have HQ := hid Q3.out
        have HB := hid B3.out
        rw [hw3] at HQ HB
        have t0 := blk_cell HQ.out (o := 0) (v := .int .i64 0) rfl
        have t1 := blk_cell HQ.out (o := 1) (v := .int .i64 0) rfl
        have t2 := blk_cell HQ.out (o := 2) (v := .slice none 0 0) rfl
        have t3 := blk_cell HQ.out (o := 3) (v := .slice none 0 0) rfl
        have f0 := blk_free (o := 0) HQ.out
        have f1 := blk_free (o := 1) HQ.out
        have f2 := blk_free (o := 2) HQ.out
        have f3 := blk_free (o := 3) HQ.out
        clear hm hw3 hg6
        go_wp2
        refine bodyPost_ret (results_cell_row Try.results34 _ _ (w.heap.size + 1) 49 #[.int .i64 (2), .int .i64 0, .slice none 0 0, .slice none 0 0] (0, 0) _ rfl (set4 HQ.out _ _ _ _) Try.underlying49 rfl info4) rfl ?_
        rw [hR.out]
        exact jpost_no (by rw [HKC.out]; decide) (by rw [HKC.out]) (below4 HB.out (by omega) _ _ _ _)
      · have q1 : ¬ (2400 : Int) - (s.length : Int) - (l.length : Int) < (px.length : Int) := by omega
        have HKC := hid (HK4.out HZ.out HX.out (by rw [← HPN.out]; exact hm))
        clear hm
        go_upto_region 9 with fail
        rw [← hw3, ← hg6]
        clear hw3 hg6 m0 m1 b0 b1
        have HKP := hid (fun wn (hb : Below w3.heap.size w3 wn) => (⟨B3.out.trans (hb.mono B3.out.size), (hb.block _ (by omega)).trans P3.out, (hb.block _ lg6).trans V3.out⟩ : Below w.heap.size w wn ∧ wn.heap[w.heap.size]? = some (.cells #[.slice a1 s.length c1, .slice a2 l.length c2] 44 (0, 0)) ∧ wn.heap[g6]? = some (.cells #[.int .i64 fx, .slice a3 px.length k3] 26 (0, 0))))
        have HCL := hid (fun w' (hb : Below w3.heap.size w3 w') => implClone w3.heap.size s _ w' h1 hb.size (HS3.out.below hb (Nat.le_refl _)))
        have HCT := hid (fun w' g (hb : Below w3.heap.size w3 w') (hg : w'.heap[g]? = some (.cells #[.slice a2 l.length c2, .slice a3 px.length k3] 24 (0, 0))) => implConcat w3.heap.size g l px _ _ 24 w' (by omega) hb.size (HL3.out.below hb (Nat.le_refl _)) (HX3.out.below hb (Nat.le_refl _)) hg)
        have HTL : Hid ((l ++ px).length = l.length + px.length) := hid List.length_append
        unfold BPost at HCL HCT
        generalize l ++ px = t at *
        have htl : t.length ≤ 3000 := by rw [HTL.out]; omega
        have hbd : Below w3.heap.size w3 w3.drew := (Below.refl _ w3).drew
        refine wp_region_held_drew (S := fun wx => Below w.heap.size w wx ∧ wx.heap[w.heap.size]? = some (.cells #[.slice a1 s.length c1, .slice a2 l.length c2] 44 (0, 0)) ∧ wx.heap[g6]? = some (.cells #[.int .i64 fx, .slice a3 px.length k3] 26 (0, 0))) (by kernel_rfl) (HKP.out _ hbd) (fun hHeld => ?_)
        refine wpAnyH_take (i := 0) (oi := { dst := some 34, op := Go.Op.fieldAddr 44 (Go.Operand.tmp 2) 0, type := 0, pos := "l13_journal.go:178", after := #[], guard := none }) (v := .pointer (some ⟨w.heap.size, 0, none⟩)) rfl (by kernel_rfl) (by kernel_rfl) (by kernel_rfl) (fun _ _ _ h => h) (Or.inl ⟨by rfl, by intro w hSw; (try dsimp only at hSw); go_simp⟩) (by assumption) ?_
        simp only [Act.put, List.setIfInBounds_toArray, List.set_cons_zero, List.set_cons_succ]
        refine wpAnyH_take (i := 1) (oi := { dst := some 35, op := Go.Op.load 24 (Go.Operand.tmp 34), type := 24, pos := "l13_journal.go:178", after := #[{ on := 0, ground := Go.Ground.data }], guard := none }) (v := .slice a1 s.length c1) rfl (by kernel_rfl) (by kernel_rfl) (by kernel_rfl) (fun _ _ _ h => h) (Or.inl ⟨by rfl, by intro w hSw; (try dsimp only at hSw); have ca := blk_cell hSw.2.1 (o := 0) (v := .slice a1 s.length c1) rfl; go_simp⟩) (by assumption) ?_
        simp only [Act.put, List.setIfInBounds_toArray, List.set_cons_zero, List.set_cons_succ]
        refine wpAnyH_take (i := 3) (oi := { dst := some 37, op := Go.Op.fieldAddr 44 (Go.Operand.tmp 2) 1, type := 0, pos := "l13_journal.go:178", after := #[], guard := none }) (v := .pointer (some ⟨w.heap.size, 1, none⟩)) rfl (by kernel_rfl) (by kernel_rfl) (by kernel_rfl) (fun _ _ _ h => h) (Or.inl ⟨by rfl, by intro w hSw; (try dsimp only at hSw); go_simp⟩) (by assumption) ?_
        simp only [Act.put, List.setIfInBounds_toArray, List.set_cons_zero, List.set_cons_succ]
        refine wpAnyH_take (i := 4) (oi := { dst := some 38, op := Go.Op.load 24 (Go.Operand.tmp 37), type := 24, pos := "l13_journal.go:178", after := #[{ on := 3, ground := Go.Ground.data }], guard := none }) (v := .slice a2 l.length c2) rfl (by kernel_rfl) (by kernel_rfl) (by kernel_rfl) (fun _ _ _ h => h) (Or.inl ⟨by rfl, by intro w hSw; (try dsimp only at hSw); have ca := blk_cell hSw.2.1 (o := 1) (v := .slice a2 l.length c2) rfl; go_simp⟩) (by assumption) ?_
        simp only [Act.put, List.setIfInBounds_toArray, List.set_cons_zero, List.set_cons_succ]
        refine wpAnyH_take (i := 5) (oi := { dst := some 39, op := Go.Op.fieldAddr 26 (Go.Operand.tmp 6) 1, type := 0, pos := "l13_journal.go:178", after := #[], guard := none }) (v := .pointer (some ⟨g6, 1, none⟩)) rfl (by kernel_rfl) (by kernel_rfl) (by kernel_rfl) (fun _ _ _ h => h) (Or.inl ⟨by rfl, by intro w hSw; (try dsimp only at hSw); go_simp⟩) (by assumption) ?_
        simp only [Act.put, List.setIfInBounds_toArray, List.set_cons_zero, List.set_cons_succ]
        refine wpAnyH_take (i := 6) (oi := { dst := some 40, op := Go.Op.load 24 (Go.Operand.tmp 39), type := 24, pos := "l13_journal.go:178", after := #[{ on := 5, ground := Go.Ground.data }], guard := none }) (v := .slice a3 px.length k3) rfl (by kernel_rfl) (by kernel_rfl) (by kernel_rfl) (fun _ _ _ h => h) (Or.inl ⟨by rfl, by intro w hSw; (try dsimp only at hSw); have ca := blk_cell hSw.2.2 (o := 1) (v := .slice a3 px.length k3) rfl; go_simp⟩) (by assumption) ?_
        simp only [Act.put, List.setIfInBounds_toArray, List.set_cons_zero, List.set_cons_succ]
        refine wpAnyH_ready (rs := [2, 7]) (by kernel_rfl) (by simp) ?_
        refine (AllReadyH.cons (o := { dst := some 36, op := Go.Op.call { callee := Go.Callee.value (Go.Operand.func 67), args := #[Go.Operand.tmp 35], argTypes := #[24] }, type := 24, pos := "l13_journal.go:178", after := #[{ on := 1, ground := Go.Ground.data }], guard := none }) rfl (fun K hK => ?_) (AllReadyH.cons (o := { dst := some 41, op := Go.Op.buildSlice 91 2 #[(0, Go.Operand.tmp 38), (1, Go.Operand.tmp 40)], type := 91, pos := "l13_journal.go:178", after := #[{ on := 4, ground := Go.Ground.data }, { on := 6, ground := Go.Ground.data }], guard := none }) rfl (fun K hK => ?_) AllReadyH.nil))
        · go_simp
          go_at_call 67
          refine (HCL.out _ hbd).mono ?_
          rintro z w4 ⟨a8, k8, rfl, ho8, hb8⟩
          have hc4 := hbd.trans (hb8.mono hbd.size)
          have l4 := hb8.size
          have O8 := ho8
          clear hb8
          go_wp2_with fail
          refine hK.out _ _ (HKP.out _ hc4) (fun hHeld => ?_)
          clear hK K
          try simp only [Act.put, List.setIfInBounds_toArray, List.set_cons_zero, List.set_cons_succ]
          refine wpAnyH_ready (rs := [7]) (by kernel_rfl) (by simp) ?_
          refine (AllReadyH.cons (o := { dst := some 41, op := Go.Op.buildSlice 91 2 #[(0, Go.Operand.tmp 38), (1, Go.Operand.tmp 40)], type := 91, pos := "l13_journal.go:178", after := #[{ on := 4, ground := Go.Ground.data }, { on := 6, ground := Go.Ground.data }], guard := none }) rfl (fun K hK => ?_) AllReadyH.nil)
          go_simp
          have hc5 : Below w3.heap.size w3 (w4.alloc (.cells #[.slice a2 l.length c2, .slice a3 px.length k3] 24)) := hc4.alloc hc4.size _
          refine hK.out _ _ (HKP.out _ hc5) (fun hHeld => ?_)
          clear hK K
          try simp only [Act.put, List.setIfInBounds_toArray, List.set_cons_zero, List.set_cons_succ]
          refine wpAnyH_ready (rs := [8]) (by kernel_rfl) (by simp) ?_
          refine (AllReadyH.cons (o := { dst := some 42, op := Go.Op.call { callee := Go.Callee.value (Go.Operand.func 68), args := #[Go.Operand.tmp 41], argTypes := #[91] }, type := 24, pos := "l13_journal.go:178", after := #[{ on := 7, ground := Go.Ground.data }, { on := 2, ground := Go.Ground.chain }], guard := none }) rfl (fun K hK => ?_) AllReadyH.nil)
          go_simp
          go_at_call 68
          refine (HCT.out _ _ hc5 (heap_alloc_new w4 (.cells #[.slice a2 l.length c2, .slice a3 px.length k3] 24))).mono ?_
          rintro z w6 ⟨a9, k9, rfl, ho9, hb9⟩
          have HC6x := hc5.trans (hb9.mono hc5.size)
          have JE : Hid (Jo w6 w3.heap.size (.slice a8 s.length k8) (.slice a9 t.length k9) s t) := hid ⟨ob_mono ((O8.below ((Below.refl w4.heap.size w4).alloc (Nat.le_refl _) (.cells #[.slice a2 l.length c2, .slice a3 px.length k3] 24)) (Nat.le_refl _)).below hb9 (Nat.le_refl _)) (by simp), ob_mono ho9 (by have := hc5.size; exact this), fun b e1 e2 => by have h1 := (O8.lt b e1).2; have h2 := (ho9.lt b e2).1; simp only [World.size_alloc] at h2; omega⟩
          have HC6 := hid HC6x
          clear hb9 ho9
          go_wp2_with fail
          refine hK.out _ _ (HKP.out _ HC6.out) (fun hHeld => ?_)
          clear hK K
          try simp only [Act.put, List.setIfInBounds_toArray, List.set_cons_zero, List.set_cons_succ]
          have hc6 := HC6.out
          have HCN := hid (implCounted w6.heap.size s t _ _ w6 h1 (by omega) (Nat.le_refl _) JE.out.o1.at JE.out.o2.at)
          refine wpAnyH_take (i := 9) (oi := { dst := some 43, op := Go.Op.build 44 #[(0, Go.Operand.tmp 36), (1, Go.Operand.tmp 42)], type := 44, pos := "l13_journal.go:178", after := #[{ on := 2, ground := Go.Ground.data }, { on := 8, ground := Go.Ground.data }], guard := none }) (v := .agg #[.slice a8 s.length k8, .slice a9 t.length k9]) rfl (by kernel_rfl) (by kernel_rfl) (by kernel_rfl) (fun _ _ _ h => h) (Or.inl ⟨by rfl, by intro w hSw; (try dsimp only at hSw); go_simp⟩) (by assumption) ?_
          simp only [Act.put, List.setIfInBounds_toArray, List.set_cons_zero, List.set_cons_succ]
          refine wpAnyH_ready (rs := [10]) (by kernel_rfl) (by simp) ?_
          refine AllReadyH.cons (o := { dst := some 44, op := Go.Op.call { callee := Go.Callee.value (Go.Operand.func 66), args := #[Go.Operand.tmp 43], argTypes := #[44] }, type := 49, pos := "l13_journal.go:178", after := #[{ on := 9, ground := Go.Ground.data }, { on := 8, ground := Go.Ground.chain }], guard := none }) rfl (fun K hK => ?_) AllReadyH.nil
          go_simp
          go_at_call 66
          refine HCN.out.mono ?_
          rintro z w7 ⟨rfl, hb7⟩
          have hc7 := hc6.trans (hb7.mono hc6.size)
          have J7 := hid (JE.out.below hb7 (Nat.le_refl _))
          have hK7 := HKP.out _ hc7
          have Q7 : Hid (w7.heap[w.heap.size + 1]? = some (.cells #[.int .i64 0, .int .i64 0, .slice none 0 0, .slice none 0 0] 49 (0, 0))) := hid ((hc7.block _ (by omega)).trans Q3.out)
          have t0 := blk_cell Q7.out (o := 0) (v := .int .i64 0) rfl
          have t1 := blk_cell Q7.out (o := 1) (v := .int .i64 0) rfl
          have t2 := blk_cell Q7.out (o := 2) (v := .slice none 0 0) rfl
          have t3 := blk_cell Q7.out (o := 3) (v := .slice none 0 0) rfl
          have f0 := blk_free (o := 0) Q7.out
          have f1 := blk_free (o := 1) Q7.out
          have f2 := blk_free (o := 2) Q7.out
          have f3 := blk_free (o := 3) Q7.out
          clear hb7
          go_wp2_with fail
          refine hK.out _ _ hK7 (fun hHeld => ?_)
          clear hK K
          try simp only [Act.put, List.setIfInBounds_toArray, List.set_cons_zero, List.set_cons_succ]
          refine wpAnyH_ready (rs := [11]) (by kernel_rfl) (by simp) ?_
          refine AllReadyH.cons (o := { dst := none, op := Go.Op.store 49 (Go.Operand.tmp 4) (Go.Operand.tmp 44), type := 0, pos := "l13_journal.go:178", after := #[{ on := 10, ground := Go.Ground.data }, { on := 10, ground := Go.Ground.chain }, { on := 0, ground := Go.Ground.phase }, { on := 1, ground := Go.Ground.phase }, { on := 2, ground := Go.Ground.phase }, { on := 3, ground := Go.Ground.phase }, { on := 4, ground := Go.Ground.phase }, { on := 5, ground := Go.Ground.phase }, { on := 6, ground := Go.Ground.phase }, { on := 7, ground := Go.Ground.phase }, { on := 8, ground := Go.Ground.phase }, { on := 9, ground := Go.Ground.phase }, { on := 10, ground := Go.Ground.phase }], guard := none }) rfl (fun K hK => ?_) AllReadyH.nil
          go_simp
          refine hK.out _ _ ⟨below4 hK7.1 (by omega) _ _ _ _, (heap4 (by omega) _ _ _ _).trans hK7.2.1, (heap4 (by omega) _ _ _ _).trans hK7.2.2⟩ (fun hHeld => ?_)
          clear hK K
          try simp only [Act.put, List.setIfInBounds_toArray, List.set_cons_zero, List.set_cons_succ]
          refine wpAnyH_done (by kernel_rfl) ?_ _
          go_wp2
          refine bodyPost_ret (results_cell_row Try.results34 _ _ (w.heap.size + 1) 49 #[.int .i64 0, .int .i64 (countN s t : Int), .slice a8 s.length k8, .slice a9 t.length k9] (0, 0) _ rfl (set4 Q7.out _ _ _ _) Try.underlying49 rfl info4) rfl ?_
          rw [hR.out]
          exact jpost_so HKC.out rfl ((jo4 J7.out (by omega)).mono (by omega)) (below4 hK7.1 (by omega) _ _ _ _)
        · go_simp
          have hc4 : Below w3.heap.size w3 (w3.drew.alloc (.cells #[.slice a2 l.length c2, .slice a3 px.length k3] 24)) := hbd.alloc (by simp) _
          refine hK.out _ _ (HKP.out _ hc4) (fun hHeld => ?_)
          clear hK K
          try simp only [Act.put, List.setIfInBounds_toArray, List.set_cons_zero, List.set_cons_succ]
          refine wpAnyH_ready (rs := [2]) (by kernel_rfl) (by simp) ?_
          refine (AllReadyH.cons (o := { dst := some 36, op := Go.Op.call { callee := Go.Callee.value (Go.Operand.func 67), args := #[Go.Operand.tmp 35], argTypes := #[24] }, type := 24, pos := "l13_journal.go:178", after := #[{ on := 1, ground := Go.Ground.data }], guard := none }) rfl (fun K hK => ?_) AllReadyH.nil)
          go_simp
          go_at_call 67
          refine (HCL.out _ hc4).mono ?_
          rintro z w5 ⟨a8, k8, rfl, ho8, hb8⟩
          have hc5 := hc4.trans (hb8.mono hc4.size)
          have hg5 := (hb8.block w3.heap.size (by simp)).trans (heap_alloc_new w3.drew (.cells #[.slice a2 l.length c2, .slice a3 px.length k3] 24))
          have O8 := ho8
          clear ho8
          go_wp2_with fail
          refine hK.out _ _ (HKP.out _ hc5) (fun hHeld => ?_)
          clear hK K
          try simp only [Act.put, List.setIfInBounds_toArray, List.set_cons_zero, List.set_cons_succ]
          refine wpAnyH_ready (rs := [8]) (by kernel_rfl) (by simp) ?_
          refine (AllReadyH.cons (o := { dst := some 42, op := Go.Op.call { callee := Go.Callee.value (Go.Operand.func 68), args := #[Go.Operand.tmp 41], argTypes := #[91] }, type := 24, pos := "l13_journal.go:178", after := #[{ on := 7, ground := Go.Ground.data }, { on := 2, ground := Go.Ground.chain }], guard := none }) rfl (fun K hK => ?_) AllReadyH.nil)
          go_simp
          go_at_call 68
          refine (HCT.out _ _ hc5 hg5).mono ?_
          rintro z w6 ⟨a9, k9, rfl, ho9, hb9⟩
          have HC6x := hc5.trans (hb9.mono hc5.size)
          have JE : Hid (Jo w6 w3.heap.size (.slice a8 s.length k8) (.slice a9 t.length k9) s t) := hid ⟨ob_mono (O8.below hb9 (Nat.le_refl _)) (by simp), ob_mono ho9 (by have := hc5.size; exact this), fun b e1 e2 => by have h1 := (O8.lt b e1).2; have h2 := (ho9.lt b e2).1; omega⟩
          have HC6 := hid HC6x
          clear hb9 ho9 hb8
          go_wp2_with fail
          refine hK.out _ _ (HKP.out _ HC6.out) (fun hHeld => ?_)
          clear hK K
          try simp only [Act.put, List.setIfInBounds_toArray, List.set_cons_zero, List.set_cons_succ]
          have hc6 := HC6.out
          have HCN := hid (implCounted w6.heap.size s t _ _ w6 h1 (by omega) (Nat.le_refl _) JE.out.o1.at JE.out.o2.at)
          refine wpAnyH_take (i := 9) (oi := { dst := some 43, op := Go.Op.build 44 #[(0, Go.Operand.tmp 36), (1, Go.Operand.tmp 42)], type := 44, pos := "l13_journal.go:178", after := #[{ on := 2, ground := Go.Ground.data }, { on := 8, ground := Go.Ground.data }], guard := none }) (v := .agg #[.slice a8 s.length k8, .slice a9 t.length k9]) rfl (by kernel_rfl) (by kernel_rfl) (by kernel_rfl) (fun _ _ _ h => h) (Or.inl ⟨by rfl, by intro w hSw; (try dsimp only at hSw); go_simp⟩) (by assumption) ?_
          simp only [Act.put, List.setIfInBounds_toArray, List.set_cons_zero, List.set_cons_succ]
          refine wpAnyH_ready (rs := [10]) (by kernel_rfl) (by simp) ?_
          refine AllReadyH.cons (o := { dst := some 44, op := Go.Op.call { callee := Go.Callee.value (Go.Operand.func 66), args := #[Go.Operand.tmp 43], argTypes := #[44] }, type := 49, pos := "l13_journal.go:178", after := #[{ on := 9, ground := Go.Ground.data }, { on := 8, ground := Go.Ground.chain }], guard := none }) rfl (fun K hK => ?_) AllReadyH.nil
          go_simp
          go_at_call 66
          refine HCN.out.mono ?_
          rintro z w7 ⟨rfl, hb7⟩
          have hc7 := hc6.trans (hb7.mono hc6.size)
          have J7 := hid (JE.out.below hb7 (Nat.le_refl _))
          have hK7 := HKP.out _ hc7
          have Q7 : Hid (w7.heap[w.heap.size + 1]? = some (.cells #[.int .i64 0, .int .i64 0, .slice none 0 0, .slice none 0 0] 49 (0, 0))) := hid ((hc7.block _ (by omega)).trans Q3.out)
          have t0 := blk_cell Q7.out (o := 0) (v := .int .i64 0) rfl
          have t1 := blk_cell Q7.out (o := 1) (v := .int .i64 0) rfl
          have t2 := blk_cell Q7.out (o := 2) (v := .slice none 0 0) rfl
          have t3 := blk_cell Q7.out (o := 3) (v := .slice none 0 0) rfl
          have f0 := blk_free (o := 0) Q7.out
          have f1 := blk_free (o := 1) Q7.out
          have f2 := blk_free (o := 2) Q7.out
          have f3 := blk_free (o := 3) Q7.out
          clear hb7
          go_wp2_with fail
          refine hK.out _ _ hK7 (fun hHeld => ?_)
          clear hK K
          try simp only [Act.put, List.setIfInBounds_toArray, List.set_cons_zero, List.set_cons_succ]
          refine wpAnyH_ready (rs := [11]) (by kernel_rfl) (by simp) ?_
          refine AllReadyH.cons (o := { dst := none, op := Go.Op.store 49 (Go.Operand.tmp 4) (Go.Operand.tmp 44), type := 0, pos := "l13_journal.go:178", after := #[{ on := 10, ground := Go.Ground.data }, { on := 10, ground := Go.Ground.chain }, { on := 0, ground := Go.Ground.phase }, { on := 1, ground := Go.Ground.phase }, { on := 2, ground := Go.Ground.phase }, { on := 3, ground := Go.Ground.phase }, { on := 4, ground := Go.Ground.phase }, { on := 5, ground := Go.Ground.phase }, { on := 6, ground := Go.Ground.phase }, { on := 7, ground := Go.Ground.phase }, { on := 8, ground := Go.Ground.phase }, { on := 9, ground := Go.Ground.phase }, { on := 10, ground := Go.Ground.phase }], guard := none }) rfl (fun K hK => ?_) AllReadyH.nil
          go_simp
          refine hK.out _ _ ⟨below4 hK7.1 (by omega) _ _ _ _, (heap4 (by omega) _ _ _ _).trans hK7.2.1, (heap4 (by omega) _ _ _ _).trans hK7.2.2⟩ (fun hHeld => ?_)
          clear hK K
          try simp only [Act.put, List.setIfInBounds_toArray, List.set_cons_zero, List.set_cons_succ]
          refine wpAnyH_done (by kernel_rfl) ?_ _
          go_wp2
          refine bodyPost_ret (results_cell_row Try.results34 _ _ (w.heap.size + 1) 49 #[.int .i64 0, .int .i64 (countN s t : Int), .slice a8 s.length k8, .slice a9 t.length k9] (0, 0) _ rfl (set4 Q7.out _ _ _ _) Try.underlying49 rfl info4) rfl ?_
          rw [hR.out]
          exact jpost_so HKC.out rfl ((jo4 J7.out (by omega)).mono (by omega)) (below4 hK7.1 (by omega) _ _ _ _)
    · have b8 : (fx != 0) = true := by simpa using hx
      have HX := hid hx
      have HKC := hid (HK2.out HZ.out hx)
      have m0 := blk_cell V3.out (o := 0) (v := .int .i64 fx) rfl
      have HQ := hid Q3.out
      have HB := hid B3.out
      rw [hw3, hg6] at m0
      rw [hw3] at HQ HB
      have t0 := blk_cell HQ.out (o := 0) (v := .int .i64 0) rfl
      have t1 := blk_cell HQ.out (o := 1) (v := .int .i64 0) rfl
      have t2 := blk_cell HQ.out (o := 2) (v := .slice none 0 0) rfl
      have t3 := blk_cell HQ.out (o := 3) (v := .slice none 0 0) rfl
      have f0 := blk_free (o := 0) HQ.out
      have f1 := blk_free (o := 1) HQ.out
      have f2 := blk_free (o := 2) HQ.out
      have f3 := blk_free (o := 3) HQ.out
      clear hx hw3 hg6 hb2 ho2 hB2 hp2 hq2
      go_wp2
      refine bodyPost_ret (results_cell_row Try.results34 _ _ (w.heap.size + 1) 49 #[.int .i64 (fx), .int .i64 0, .slice none 0 0, .slice none 0 0] (0, 0) _ rfl (set4 HQ.out _ _ _ _) Try.underlying49 rfl info4) rfl ?_
      rw [hR.out]
      exact jpost_no (by rw [HKC.out]; exact HX.out) (by rw [HKC.out]) (below4 HB.out (by omega) _ _ _ _)
  · have b9 : (f != 0) = true := by simpa using hz
    have HZ := hid hz
    have HKC := hid (HK1.out hz)
    have t0 := blk_cell P1.out (o := 0) (v := .int .i64 0) rfl
    have t1 := blk_cell P1.out (o := 1) (v := .int .i64 0) rfl
    have t2 := blk_cell P1.out (o := 2) (v := .slice none 0 0) rfl
    have t3 := blk_cell P1.out (o := 3) (v := .slice none 0 0) rfl
    have f0 := blk_free (o := 0) P1.out
    have f1 := blk_free (o := 1) P1.out
    have f2 := blk_free (o := 2) P1.out
    have f3 := blk_free (o := 3) P1.out
    clear hz
    go_wp2
    refine bodyPost_ret (results_cell_row Try.results34 _ _ (w.heap.size + 1) 49 #[.int .i64 (f), .int .i64 0, .slice none 0 0, .slice none 0 0] (0, 0) _ rfl (set4 P1.out _ _ _ _) Try.underlying49 rfl info4) rfl ?_
    rw [hR.out]
    exact jpost_no (by rw [HKC.out]; exact HZ.out) (by rw [HKC.out]) (below4 B1.out (by omega) _ _ _ _)
end Jn
end Go.Proofs.Ytiliahibnhfhoaa
