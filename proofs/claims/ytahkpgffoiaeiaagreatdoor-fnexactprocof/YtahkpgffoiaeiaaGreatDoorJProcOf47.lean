/- A step is read from an element: the program's readStep. -/
import Derived.Test.YtahkpgffoiaeiaaGreatDoorJProcOf25
import Derived.Deep.Cut
import Derived.Deep.RegionHeld3
namespace Go.Proofs.YtahkpgffoiaeiaaGreatDoor
open Go.RowKit
set_option linter.unusedVariables false
namespace Po
open Ex (hid inR nvals)
open Nd (NodeD)
open St (StepD)
open Tr (AttrD ElemD AttrsAt acode)
open Nst (own)
open Pf (kindN tagC Rul implTag implKind)
theorem kept_cell {B : Nat} {W w : World} (h : Below B W w) {b o : Nat} (hb : b < B) {v : Value} (hc : W.cell? ⟨b, o, none⟩ = some v) : w.cell? ⟨b, o, none⟩ = some v := (h.cell (p := ⟨b, o, none⟩) hb).trans hc
theorem kind_in {s : ByteArray} (h : ¬ kindN s = 0) : inR (kindN s) 1 8 = true := by
  revert h
  unfold kindN
  repeat' split
  all_goals first | (intro _; decide) | (intro h; exact absurd rfl h)
theorem set6 {B : Nat} {W w : World} (h : Below B W w) {b : Nat} (hb : B ≤ b) (x0 x1 x2 x3 x4 x5 : Value) : Below B W ((((((w.setCell ⟨b, 0, none⟩ x0).setCell ⟨b, 1, none⟩ x1).setCell ⟨b, 2, none⟩ x2).setCell ⟨b, 3, none⟩ x3).setCell ⟨b, 4, none⟩ x4).setCell ⟨b, 5, none⟩ x5) :=
  (((((h.setCell (p := ⟨b, 0, none⟩) hb _).setCell (p := ⟨b, 1, none⟩) hb _).setCell (p := ⟨b, 2, none⟩) hb _).setCell (p := ⟨b, 3, none⟩) hb _).setCell (p := ⟨b, 4, none⟩) hb _).setCell (p := ⟨b, 5, none⟩) hb _
theorem own6 {w : World} {B b n : Nat} {t : TypeId} {z : Nat} {v : Value} {xs : List Value} (h : w.ownsRow B t z v n xs) (hb : b < B) (x0 x1 x2 x3 x4 x5 : Value) : ((((((w.setCell ⟨b, 0, none⟩ x0).setCell ⟨b, 1, none⟩ x1).setCell ⟨b, 2, none⟩ x2).setCell ⟨b, 3, none⟩ x3).setCell ⟨b, 4, none⟩ x4).setCell ⟨b, 5, none⟩ x5).ownsRow B t z v n xs :=
  ownsRow_setCell_below (ownsRow_setCell_below (ownsRow_setCell_below (ownsRow_setCell_below (ownsRow_setCell_below (ownsRow_setCell_below h (a := ⟨b, 0, none⟩) hb _) (a := ⟨b, 1, none⟩) hb _) (a := ⟨b, 2, none⟩) hb _) (a := ⟨b, 3, none⟩) hb _) (a := ⟨b, 4, none⟩) hb _) (a := ⟨b, 5, none⟩) hb _
theorem sv0 {w : World} {S : Nat} {el : ElemD} {kd : Int} (h : w.heap[S]? = some (.cells #[.int .i64 0, .int .i64 0, .string { data := #[] }, .int .i64 0, .slice none 0 0, .slice none 0 0] 42)) (hk : kindN el.tag = kd) : SV ((((((w.setCell ⟨S, 0, none⟩ (.int .i64 kd)).setCell ⟨S, 1, none⟩ (.int .i64 el.parent)).setCell ⟨S, 2, none⟩ (.string { data := #[] })).setCell ⟨S, 3, none⟩ (.int .i64 0)).setCell ⟨S, 4, none⟩ (.slice none 0 0)).setCell ⟨S, 5, none⟩ (.slice none 0 0)) S (step0 el) (.slice none 0 0) (.slice none 0 0) := by
  subst hk
  exact ⟨blk_set (blk_set (blk_set (blk_set (blk_set (blk_set h _) _) _) _) _) _, World.ownsRow_nil _ _ _ _, World.ownsRow_nil _ _ _ _, fun b ho => by cases ho⟩
/-- What reading a step answers. -/
def StepPost (e : ElemD) (w : World) (en : Ending) (w' : World) : Prop :=
  ((stepC e ≠ 0 ∧ en = .returned (.tuple #[.agg #[.int .i64 0, .int .i64 0, .string { data := #[] }, .int .i64 0, .slice none 0 0, .slice none 0 0], .iface 56 (.agg #[.int .i64 (stepC e)])]))
    ∨ (stepC e = 0 ∧ ∃ vc ve, en = .returned (.tuple #[.agg #[.int .i64 (stepS e).kind, .int .i64 (stepS e).parent, .string (stepS e).name, .int .i64 (stepS e).arg, vc, ve], .nilIface])
        ∧ w'.ownsRow w.heap.size 143 4 vc (stepS e).cond.length (nvals (stepS e).cond) ∧ w'.ownsRow w.heap.size 143 4 ve (stepS e).expr.length (nvals (stepS e).expr) ∧ ∀ b, own vc b → ¬ own ve b))
  ∧ Below w.heap.size w w'
set_option maxRecDepth 100000 in
set_option maxHeartbeats 8000000 in
theorem implStep (B : Nat) (el : ElemD) (v : Value) (w : World) (hc : acode el.attrs = 0) (h6 : el.attrs.length ≤ 6) (ha : AttrsAt w B v el.attrs) (hr : Rul w) :
    Calls Tryz.prog 40 #[.agg #[.string el.tag, .int .i64 el.parent, v]] w (StepPost el w) := by
  obtain ⟨a, cap, rfl⟩ := ha.slice
  have HAt := hid ha
  have HR := hid hr
  clear ha hr
  unfold StepPost
  go_enter Tryz.func40, Tryz.ntmps40
  go_wp2_with fail
  have HW1 : Hid (Below w.heap.size w ((w.alloc (.cells #[.string el.tag, .int .i64 el.parent, .slice a el.attrs.length cap] 48)).alloc (.cells #[.int .i64 0, .int .i64 0, .string { data := #[] }, .int .i64 0, .slice none 0 0, .slice none 0 0] 42))) := hid (((Below.refl _ w).alloc (Nat.le_refl _) _).alloc (by simp) _)
  have hsz1 : ((w.alloc (.cells #[.string el.tag, .int .i64 el.parent, .slice a el.attrs.length cap] 48)).alloc (.cells #[.int .i64 0, .int .i64 0, .string { data := #[] }, .int .i64 0, .slice none 0 0, .slice none 0 0] 42)).heap.size = w.heap.size + 2 := by simp
  have HCP : Hid (∀ w', Below ((w.alloc (.cells #[.string el.tag, .int .i64 el.parent, .slice a el.attrs.length cap] 48)).alloc (.cells #[.int .i64 0, .int .i64 0, .string { data := #[] }, .int .i64 0, .slice none 0 0, .slice none 0 0] 42)).heap.size ((w.alloc (.cells #[.string el.tag, .int .i64 el.parent, .slice a el.attrs.length cap] 48)).alloc (.cells #[.int .i64 0, .int .i64 0, .string { data := #[] }, .int .i64 0, .slice none 0 0, .slice none 0 0] 42)) w' → w'.cell? ⟨w.heap.size, 0, none⟩ = some (.string el.tag) ∧ w'.cell? ⟨w.heap.size, 1, none⟩ = some (.int .i64 el.parent) ∧ w'.cell? ⟨w.heap.size, 2, none⟩ = some (.slice a el.attrs.length cap) ∧ w.heap.size + 2 ≤ w'.heap.size) := hid (fun w' hb => ⟨kept_cell hb (by rw [hsz1]; omega) (by go_simp), kept_cell hb (by rw [hsz1]; omega) (by go_simp), kept_cell hb (by rw [hsz1]; omega) (by go_simp), by have := hb.size; simp at this; omega⟩)
  have HRB : Hid (∀ w', Below ((w.alloc (.cells #[.string el.tag, .int .i64 el.parent, .slice a el.attrs.length cap] 48)).alloc (.cells #[.int .i64 0, .int .i64 0, .string { data := #[] }, .int .i64 0, .slice none 0 0, .slice none 0 0] 42)).heap.size ((w.alloc (.cells #[.string el.tag, .int .i64 el.parent, .slice a el.attrs.length cap] 48)).alloc (.cells #[.int .i64 0, .int .i64 0, .string { data := #[] }, .int .i64 0, .slice none 0 0, .slice none 0 0] 42)) w' → w'.heap[w.heap.size + 1]? = some (.cells #[.int .i64 0, .int .i64 0, .string { data := #[] }, .int .i64 0, .slice none 0 0, .slice none 0 0] 42)) := hid (fun w' hb => (hb.block _ (by rw [hsz1]; omega)).trans (by rw [← show (w.alloc (.cells #[.string el.tag, .int .i64 el.parent, .slice a el.attrs.length cap] 48)).heap.size = w.heap.size + 1 by simp]; exact heap_alloc_new _ _))
  generalize (w.alloc (.cells #[.string el.tag, .int .i64 el.parent, .slice a el.attrs.length cap] 48)).alloc (.cells #[.int .i64 0, .int .i64 0, .string { data := #[] }, .int .i64 0, .slice none 0 0, .slice none 0 0] 42) = w1 at *
  have HR1 := hid (HR.out.below HW1.out HR.out.lt)
  refine (implTag _ _ HR1.out).mono ?_
  rintro e w2 ⟨rfl, hb2⟩
  obtain ⟨p0, p1, p2, hP⟩ := HCP.out w2 hb2
  have HW2 : Hid (Below w.heap.size w w2) := hid (Below.trans HW1.out (hb2.mono HW1.out.size))
  have HRC : Hid (∀ w', Below w1.heap.size w1 w' → ((w'.cell? ⟨w.heap.size + 1, 0, none⟩ = some (.int .i64 0) ∧ w'.cell? ⟨w.heap.size + 1, 1, none⟩ = some (.int .i64 0) ∧ w'.cell? ⟨w.heap.size + 1, 2, none⟩ = some (.string { data := #[] }) ∧ w'.cell? ⟨w.heap.size + 1, 3, none⟩ = some (.int .i64 0) ∧ w'.cell? ⟨w.heap.size + 1, 4, none⟩ = some (.slice none 0 0) ∧ w'.cell? ⟨w.heap.size + 1, 5, none⟩ = some (.slice none 0 0)) ∧ (w'.frozen? ⟨w.heap.size + 1, 0, none⟩ = false ∧ w'.frozen? ⟨w.heap.size + 1, 1, none⟩ = false ∧ w'.frozen? ⟨w.heap.size + 1, 2, none⟩ = false ∧ w'.frozen? ⟨w.heap.size + 1, 3, none⟩ = false ∧ w'.frozen? ⟨w.heap.size + 1, 4, none⟩ = false ∧ w'.frozen? ⟨w.heap.size + 1, 5, none⟩ = false))) := hid (fun w' hb => by
    have h := HRB.out w' hb
    exact ⟨⟨blk_cell h 0, blk_cell h 1, blk_cell h 2, blk_cell h 3, blk_cell h 4, blk_cell h 5⟩, ⟨blk_free h 0, blk_free h 1, blk_free h 2, blk_free h 3, blk_free h 4, blk_free h 5⟩⟩)
  by_cases hk0 : kindN el.tag = 0
  · have HC4 := hid (step_none hk0)
    have htag : tagC el.tag = 4 := by unfold tagC; rw [if_pos hk0]
    obtain ⟨⟨r0, r1, r2, r3, r4, r5⟩, f0, f1, f2, f3, f4, f5⟩ := HRC.out w2 hb2
    rw [htag]
    clear hk0 htag hb2
    go_wp2
    refine bodyPost_ret (v := .tuple #[.agg #[.int .i64 0, .int .i64 0, .string { data := #[] }, .int .i64 0, .slice none 0 0, .slice none 0 0], .iface 56 (.agg #[.int .i64 4])]) (by simp [results, Tryz.results40, go_sem, r0, r1, r2, r3, r4, r5]) rfl ⟨.inl ⟨by rw [HC4.out]; decide, by rw [HC4.out]⟩, set6 HW2.out (by omega) _ _ _ _ _ _⟩
  have htag : tagC el.tag = 0 := by unfold tagC; rw [if_neg hk0]
  rw [htag]
  have HB2 := hid hb2
  have HK0 := hid hk0
  have HKR := hid (kind_in hk0)
  have HBd : Hid (Below w1.heap.size w1 w2.drew) := hid hb2.drew
  have HBa : ∀ o, Hid (Below w1.heap.size w1 (w2.drew.alloc o)) := fun o => hid (hb2.drew.alloc hb2.size _)
  have hlp : w.heap.size < w2.heap.size := by omega
  have HKD : Hid (∀ wx, Below w1.heap.size w1 wx → Calls Tryz.prog 67 #[.string el.tag] wx fun e w' => e = .returned (.int .i64 (kindN el.tag)) ∧ Below wx.heap.size wx w') := hid (fun wx hb => implKind el.tag wx (HR1.out.below hb (HR1.out.lt)))
  clear htag hb2 hk0
  go_wp2_with fail
  go_cut [5] from 8 (fun s5 wx => ∃ S, s5 = .pointer (some ⟨S, 0, none⟩) ∧ w1.heap.size ≤ S ∧ Hid (SV wx S (step0 el) (.slice none 0 0) (.slice none 0 0)) ∧ Hid (Below w1.heap.size w1 wx))
  case first =>
    generalize hkd : kindN el.tag = kd at *
    have HKS : Hid (∀ wx, Below w1.heap.size w1 wx → wx.cell? ⟨w.heap.size, 0, none⟩ = some (.string el.tag) ∧ wx.cell? ⟨w.heap.size, 1, none⟩ = some (.int .i64 el.parent)) := hid (fun wx hb => ⟨(HCP.out wx hb).1, (HCP.out wx hb).2.1⟩)
    have hs2 : w1.heap.size ≤ w2.heap.size := HB2.out.size
    have kc0 : w2.drew.cell? ⟨w.heap.size, 0, none⟩ = some (.string el.tag) ∧ w2.drew.cell? ⟨w.heap.size, 1, none⟩ = some (.int .i64 el.parent) := HKS.out _ HBd.out
    have HKD0 := hid hkd
    clear hkd p0 p1 p2
    refine wp_region_held_drew (S := fun wx => wx.cell? ⟨w.heap.size, 0, none⟩ = some (.string el.tag) ∧ wx.cell? ⟨w.heap.size, 1, none⟩ = some (.int .i64 el.parent)) (by kernel_rfl) kc0 (fun hHeld => ?_)
    refine wpAnyH_take (i := 0) (oi := { dst := some 17, op := Go.Op.fieldAddr 48 (Go.Operand.tmp 1) 0, type := 0, pos := "l05_form.go:97", after := #[], guard := none }) (v := .pointer (some ⟨w.heap.size, 0, none⟩)) rfl (by kernel_rfl) (by kernel_rfl) (by kernel_rfl) (fun _ _ _ h => h) (Or.inl ⟨by rfl, by intro w hSw; (try dsimp only at hSw); go_simp⟩) (by assumption) ?_
    simp only [Act.put, List.setIfInBounds_toArray, List.set_cons_zero, List.set_cons_succ]
    refine wpAnyH_take (i := 1) (oi := { dst := some 18, op := Go.Op.load 9 (Go.Operand.tmp 17), type := 9, pos := "l05_form.go:97", after := #[{ on := 0, ground := Go.Ground.data }], guard := none }) (v := .string el.tag) rfl (by kernel_rfl) (by kernel_rfl) (by kernel_rfl) (fun _ _ _ h => h) (Or.inl ⟨by rfl, by intro w hSw; (try dsimp only at hSw); go_simp⟩) (by assumption) ?_
    simp only [Act.put, List.setIfInBounds_toArray, List.set_cons_zero, List.set_cons_succ]
    refine wpAnyH_take (i := 3) (oi := { dst := some 20, op := Go.Op.fieldAddr 48 (Go.Operand.tmp 1) 1, type := 0, pos := "l05_form.go:97", after := #[], guard := none }) (v := .pointer (some ⟨w.heap.size, 1, none⟩)) rfl (by kernel_rfl) (by kernel_rfl) (by kernel_rfl) (fun _ _ _ h => h) (Or.inl ⟨by rfl, by intro w hSw; (try dsimp only at hSw); go_simp⟩) (by assumption) ?_
    simp only [Act.put, List.setIfInBounds_toArray, List.set_cons_zero, List.set_cons_succ]
    refine wpAnyH_take (i := 4) (oi := { dst := some 21, op := Go.Op.load 2 (Go.Operand.tmp 20), type := 2, pos := "l05_form.go:97", after := #[{ on := 3, ground := Go.Ground.data }], guard := none }) (v := .int .i64 el.parent) rfl (by kernel_rfl) (by kernel_rfl) (by kernel_rfl) (fun _ _ _ h => h) (Or.inl ⟨by rfl, by intro w hSw; (try dsimp only at hSw); go_simp⟩) (by assumption) ?_
    simp only [Act.put, List.setIfInBounds_toArray, List.set_cons_zero, List.set_cons_succ]
    refine wpAnyH_ready (rs := [2, 6]) (by kernel_rfl) (by simp) ?_
    refine (AllReadyH.cons (o := { dst := some 19, op := Go.Op.call { callee := Go.Callee.value (Go.Operand.func 67), args := #[Go.Operand.tmp 18], argTypes := #[9] }, type := 2, pos := "l05_form.go:97", after := #[{ on := 1, ground := Go.Ground.data }], guard := none }) rfl (fun K hK => ?_) (AllReadyH.cons (o := { dst := some 5, op := Go.Op.alloc 42, type := 0, pos := "l05_form.go:97", after := #[], guard := none }) rfl (fun K hK => ?_) AllReadyH.nil))
    · go_simp
      go_at_call 67
      refine (HKD.out _ HBd.out).mono ?_
      rintro e w3 ⟨rfl, hb3⟩
      have HB3 : Hid (Below w1.heap.size w1 w3) := hid (Below.trans HBd.out (hb3.mono HBd.out.size))
      have kc3 := HKS.out _ HB3.out
      have hs3 : w1.heap.size ≤ w3.heap.size := HB3.out.size
      clear hb3
      go_wp2_with fail
      refine hK.out _ _ kc3 (fun hHeld => ?_)
      clear hK K
      try simp only [Act.put, List.setIfInBounds_toArray, List.set_cons_zero, List.set_cons_succ]
      refine wpAnyH_take (i := 5) (oi := { dst := some 22, op := Go.Op.build 42 #[(0, Go.Operand.tmp 19), (1, Go.Operand.tmp 21)], type := 42, pos := "l05_form.go:97", after := #[{ on := 2, ground := Go.Ground.data }, { on := 4, ground := Go.Ground.data }], guard := none }) (v := .agg #[.int .i64 kd, .int .i64 el.parent, .string ⟨#[]⟩, .int .i64 0, .slice none 0 0, .slice none 0 0]) rfl (by kernel_rfl) (by kernel_rfl) (by kernel_rfl) (fun _ _ _ h => h) (Or.inl ⟨by rfl, by intro w hSw; (try dsimp only at hSw); go_simp⟩) (by assumption) ?_
      simp only [Act.put, List.setIfInBounds_toArray, List.set_cons_zero, List.set_cons_succ]
      refine wpAnyH_ready (rs := [6]) (by kernel_rfl) (by simp) ?_
      refine (AllReadyH.cons (o := { dst := some 5, op := Go.Op.alloc 42, type := 0, pos := "l05_form.go:97", after := #[], guard := none }) rfl (fun K hK => ?_) AllReadyH.nil)
      go_simp
      have hsb := heap_alloc_new w3 (.cells #[.int .i64 0, .int .i64 0, .string { data := #[] }, .int .i64 0, .slice none 0 0, .slice none 0 0] 42)
      have HB4 : Hid (Below w1.heap.size w1 (w3.alloc (.cells #[.int .i64 0, .int .i64 0, .string { data := #[] }, .int .i64 0, .slice none 0 0, .slice none 0 0] 42))) := hid (HB3.out.alloc HB3.out.size _)
      have hS : w1.heap.size ≤ w3.heap.size := hs3
      generalize w3.alloc (.cells #[.int .i64 0, .int .i64 0, .string { data := #[] }, .int .i64 0, .slice none 0 0, .slice none 0 0] 42) = w4 at *
      refine hK.out _ _ (HKS.out _ HB4.out) (fun hHeld => ?_)
      clear hK K
      try simp only [Act.put, List.setIfInBounds_toArray, List.set_cons_zero, List.set_cons_succ]
      have t0 := blk_free hsb 0
      have t1 := blk_free hsb 1
      have t2 := blk_free hsb 2
      have t3 := blk_free hsb 3
      have t4 := blk_free hsb 4
      have t5 := blk_free hsb 5
      have s0 : w4.cell? ⟨w3.heap.size, 0, none⟩ = some (.int .i64 0) := blk_cell hsb 0
      have s1 : w4.cell? ⟨w3.heap.size, 1, none⟩ = some (.int .i64 0) := blk_cell hsb 1
      have s2 : w4.cell? ⟨w3.heap.size, 2, none⟩ = some (.string { data := #[] }) := blk_cell hsb 2
      have s3 : w4.cell? ⟨w3.heap.size, 3, none⟩ = some (.int .i64 0) := blk_cell hsb 3
      have s4 : w4.cell? ⟨w3.heap.size, 4, none⟩ = some (.slice none 0 0) := blk_cell hsb 4
      have s5 : w4.cell? ⟨w3.heap.size, 5, none⟩ = some (.slice none 0 0) := blk_cell hsb 5
      refine wpAnyH_ready (rs := [7]) (by kernel_rfl) (by simp) ?_
      refine (AllReadyH.cons (o := { dst := none, op := Go.Op.store 42 (Go.Operand.tmp 5) (Go.Operand.tmp 22), type := 0, pos := "l05_form.go:97", after := #[{ on := 6, ground := Go.Ground.data }, { on := 5, ground := Go.Ground.data }, { on := 2, ground := Go.Ground.chain }, { on := 0, ground := Go.Ground.phase }, { on := 1, ground := Go.Ground.phase }, { on := 2, ground := Go.Ground.phase }, { on := 3, ground := Go.Ground.phase }, { on := 4, ground := Go.Ground.phase }, { on := 5, ground := Go.Ground.phase }, { on := 6, ground := Go.Ground.phase }], guard := none }) rfl (fun K hK => ?_) AllReadyH.nil)
      go_simp
      refine hK.out _ _ (HKS.out _ (set6 HB4.out hS _ _ _ _ _ _)) (fun hHeld => ?_)
      clear hK K
      try simp only [Act.put, List.setIfInBounds_toArray, List.set_cons_zero, List.set_cons_succ]
      refine wpAnyH_done (by kernel_rfl) ?_ _
      go_wp2_with fail
      go_meet
      exact ⟨w3.heap.size, rfl, hS, hid (sv0 hsb HKD0.out), hid (set6 HB4.out hS _ _ _ _ _ _)⟩
    · go_simp
      have hsa : (w2.alloc (.cells #[.int .i64 0, .int .i64 0, .string { data := #[] }, .int .i64 0, .slice none 0 0, .slice none 0 0] 42)).drew.heap[w2.heap.size]? = some (.cells #[.int .i64 0, .int .i64 0, .string { data := #[] }, .int .i64 0, .slice none 0 0, .slice none 0 0] 42) := heap_alloc_new w2 (.cells #[.int .i64 0, .int .i64 0, .string { data := #[] }, .int .i64 0, .slice none 0 0, .slice none 0 0] 42)
      have HBA : Hid (Below w1.heap.size w1 (w2.alloc (.cells #[.int .i64 0, .int .i64 0, .string { data := #[] }, .int .i64 0, .slice none 0 0, .slice none 0 0] 42)).drew) := hid (HB2.out.alloc HB2.out.size _).drew
      have hla : w2.heap.size < (w2.alloc (.cells #[.int .i64 0, .int .i64 0, .string { data := #[] }, .int .i64 0, .slice none 0 0, .slice none 0 0] 42)).drew.heap.size := by simp
      generalize (w2.alloc (.cells #[.int .i64 0, .int .i64 0, .string { data := #[] }, .int .i64 0, .slice none 0 0, .slice none 0 0] 42)).drew = w4a at *
      refine hK.out _ _ (HKS.out _ HBA.out) (fun hHeld => ?_)
      clear hK K
      try simp only [Act.put, List.setIfInBounds_toArray, List.set_cons_zero, List.set_cons_succ]
      refine wpAnyH_ready (rs := [2]) (by kernel_rfl) (by simp) ?_
      refine (AllReadyH.cons (o := { dst := some 19, op := Go.Op.call { callee := Go.Callee.value (Go.Operand.func 67), args := #[Go.Operand.tmp 18], argTypes := #[9] }, type := 2, pos := "l05_form.go:97", after := #[{ on := 1, ground := Go.Ground.data }], guard := none }) rfl (fun K hK => ?_) AllReadyH.nil)
      go_simp
      go_at_call 67
      refine (HKD.out _ HBA.out).mono ?_
      rintro e w3 ⟨rfl, hb3⟩
      have HB3 : Hid (Below w1.heap.size w1 w3) := hid (Below.trans HBA.out (hb3.mono HBA.out.size))
      have kc3 := HKS.out _ HB3.out
      have hs3 : w1.heap.size ≤ w3.heap.size := HB3.out.size
      have hsb : w3.heap[w2.heap.size]? = some (.cells #[.int .i64 0, .int .i64 0, .string { data := #[] }, .int .i64 0, .slice none 0 0, .slice none 0 0] 42) := (hb3.block _ hla).trans hsa
      clear hb3
      go_wp2_with fail
      refine hK.out _ _ kc3 (fun hHeld => ?_)
      clear hK K
      try simp only [Act.put, List.setIfInBounds_toArray, List.set_cons_zero, List.set_cons_succ]
      refine wpAnyH_take (i := 5) (oi := { dst := some 22, op := Go.Op.build 42 #[(0, Go.Operand.tmp 19), (1, Go.Operand.tmp 21)], type := 42, pos := "l05_form.go:97", after := #[{ on := 2, ground := Go.Ground.data }, { on := 4, ground := Go.Ground.data }], guard := none }) (v := .agg #[.int .i64 kd, .int .i64 el.parent, .string ⟨#[]⟩, .int .i64 0, .slice none 0 0, .slice none 0 0]) rfl (by kernel_rfl) (by kernel_rfl) (by kernel_rfl) (fun _ _ _ h => h) (Or.inl ⟨by rfl, by intro w hSw; (try dsimp only at hSw); go_simp⟩) (by assumption) ?_
      simp only [Act.put, List.setIfInBounds_toArray, List.set_cons_zero, List.set_cons_succ]
      have HB4 := HB3
      have hS : w1.heap.size ≤ w2.heap.size := hs2
      have t0 := blk_free hsb 0
      have t1 := blk_free hsb 1
      have t2 := blk_free hsb 2
      have t3 := blk_free hsb 3
      have t4 := blk_free hsb 4
      have t5 := blk_free hsb 5
      have s0 : w3.cell? ⟨w2.heap.size, 0, none⟩ = some (.int .i64 0) := blk_cell hsb 0
      have s1 : w3.cell? ⟨w2.heap.size, 1, none⟩ = some (.int .i64 0) := blk_cell hsb 1
      have s2 : w3.cell? ⟨w2.heap.size, 2, none⟩ = some (.string { data := #[] }) := blk_cell hsb 2
      have s3 : w3.cell? ⟨w2.heap.size, 3, none⟩ = some (.int .i64 0) := blk_cell hsb 3
      have s4 : w3.cell? ⟨w2.heap.size, 4, none⟩ = some (.slice none 0 0) := blk_cell hsb 4
      have s5 : w3.cell? ⟨w2.heap.size, 5, none⟩ = some (.slice none 0 0) := blk_cell hsb 5
      refine wpAnyH_ready (rs := [7]) (by kernel_rfl) (by simp) ?_
      refine (AllReadyH.cons (o := { dst := none, op := Go.Op.store 42 (Go.Operand.tmp 5) (Go.Operand.tmp 22), type := 0, pos := "l05_form.go:97", after := #[{ on := 6, ground := Go.Ground.data }, { on := 5, ground := Go.Ground.data }, { on := 2, ground := Go.Ground.chain }, { on := 0, ground := Go.Ground.phase }, { on := 1, ground := Go.Ground.phase }, { on := 2, ground := Go.Ground.phase }, { on := 3, ground := Go.Ground.phase }, { on := 4, ground := Go.Ground.phase }, { on := 5, ground := Go.Ground.phase }, { on := 6, ground := Go.Ground.phase }], guard := none }) rfl (fun K hK => ?_) AllReadyH.nil)
      go_simp
      refine hK.out _ _ (HKS.out _ (set6 HB4.out hS _ _ _ _ _ _)) (fun hHeld => ?_)
      clear hK K
      try simp only [Act.put, List.setIfInBounds_toArray, List.set_cons_zero, List.set_cons_succ]
      refine wpAnyH_done (by kernel_rfl) ?_ _
      go_wp2_with fail
      go_meet
      exact ⟨w2.heap.size, rfl, hS, hid (sv0 hsb HKD0.out), hid (set6 HB4.out hS _ _ _ _ _ _)⟩
  case rest =>
    obtain ⟨S, rfl, hS1, HSV, HBC⟩ := hcut
    clear p0 p1 p2 hP
    obtain ⟨p0, p1, p2, hP⟩ := HCP.out wc HBC.out
    have k0 : wc.cell? ⟨S, 0, none⟩ = some (.int .i64 (kindN el.tag)) := blk_cell HSV.out.blk 0
    have HHA := hid (implHas B (kindN el.tag) el.attrs _ wc (by omega) ((HAt.out.below HW1.out).below HBC.out) HKR.out)
    generalize hkd : kindN el.tag = kd at *
    go_wp2_with fail
    refine HHA.out.mono ?_
    rintro e w5 ⟨rfl, hb5⟩
    have HB5 : Hid (Below w1.heap.size w1 w5) := hid (Below.trans HBC.out (hb5.mono HBC.out.size))
    have HSV5 := hid (HSV.out.keep hb5)
    clear p0 p1 p2 hP hb5 k0
    obtain ⟨p0, p1, p2, hP⟩ := HCP.out w5 HB5.out
    have HHK := hid hkd
    cases hh : hasA kd el.attrs
    · have HC5 : Hid (stepC el = 5) := hid (step_bad (by rw [HHK.out]; exact HK0.out) (.inl (by rw [HHK.out]; exact hh)))
      obtain ⟨⟨r0, r1, r2, r3, r4, r5⟩, f0, f1, f2, f3, f4, f5⟩ := HRC.out w5 HB5.out
      clear hh hkd
      go_wp2
      refine bodyPost_ret (v := .tuple #[.agg #[.int .i64 0, .int .i64 0, .string { data := #[] }, .int .i64 0, .slice none 0 0, .slice none 0 0], .iface 56 (.agg #[.int .i64 5])]) (by simp [results, Tryz.results40, go_sem, r0, r1, r2, r3, r4, r5]) rfl ⟨.inl ⟨by rw [HC5.out]; decide, by rw [HC5.out]⟩, set6 (Below.trans HW1.out (HB5.out.mono HW1.out.size)) (by omega) _ _ _ _ _ _⟩
    have HHA2 : Hid (hasA (kindN el.tag) el.attrs = true) := hid (by rw [HHK.out]; exact hh)
    have HKN : Hid (kindN el.tag ≠ 0) := hid (by rw [HHK.out]; exact HK0.out)
    have HV40 : Hid (∀ b ∈ el.attrs, b.value.size ≤ 40) := hid (fun b hb => (acode_pre el.attrs [] hc b hb).2)
    clear hh hkd
    go_wp2_with fail
    go_loopw [35] (fun i wr => ∃ k : Nat, k ≤ el.attrs.length ∧ i = .int .i64 k ∧ (∃ t vc ve, Hid (putAll (step0 el) (el.attrs.take k) = some t) ∧ Hid (SV wr S t vc ve)) ∧ Hid (Below w1.heap.size w1 wr)) (fun i _ => el.attrs.length - (intOf i).toNat)
    case atStart => exact ⟨0, Nat.zero_le _, rfl, ⟨_, _, _, hid rfl, HSV5⟩, HB5⟩
    case round =>
      obtain ⟨k, hk, rfl, ⟨t, vc, ve, HPU, HSR⟩, HBR⟩ := hrel
      by_cases hlt : k < el.attrs.length
      · obtain ⟨g, o, rfl, hg, c0, c1⟩ := ((HAt.out.below HW1.out).below HBR.out).at hlt
        have q1 : (k : Int) < (el.attrs.length : Int) := by omega
        have HBA : Hid (Below w1.heap.size w1 (wr.alloc (.cells #[.string el.attrs[k].name, .string el.attrs[k].value] 73))) := hid (HBR.out.alloc HBR.out.size _)
        have HCT := hid (implTake S t el.attrs[k] vc ve (wr.alloc (.cells #[.string el.attrs[k].name, .string el.attrs[k].value] 73)) (HV40.out _ (List.getElem_mem hlt)) (HSR.out.keep ((Below.refl _ wr).alloc (Nat.le_refl _) _)))
        have HPS := hid (put_step hlt HPU.out)
        have HPN := hid (put_none hlt HPU.out)
        go_wp2_with fail
        refine HCT.out.mono ?_
        rintro e w6 ⟨hd, ho⟩
        have HB6 : Hid (Below w1.heap.size w1 w6) := hid (Off.below HBA.out ho hS1)
        clear ho
        rcases hd with ⟨h1, rfl, _⟩ | ⟨s', vc', ve', h1, rfl, h2⟩
        · have HC5 : Hid (stepC el = 5) := hid (step_bad HKN.out (.inr (HPN.out h1)))
          obtain ⟨⟨r0, r1, r2, r3, r4, r5⟩, f0, f1, f2, f3, f4, f5⟩ := HRC.out w6 HB6.out
          clear h1
          go_wp2
          refine bodyPost_ret (v := .tuple #[.agg #[.int .i64 0, .int .i64 0, .string { data := #[] }, .int .i64 0, .slice none 0 0, .slice none 0 0], .iface 56 (.agg #[.int .i64 5])]) (by simp [results, Tryz.results40, go_sem, r0, r1, r2, r3, r4, r5]) rfl ⟨.inl ⟨by rw [HC5.out]; decide, by rw [HC5.out]⟩, set6 (Below.trans HW1.out (HB6.out.mono HW1.out.size)) (by omega) _ _ _ _ _ _⟩
        · have HP7 : Hid (putAll (step0 el) (el.attrs.take (k + 1)) = some s') := hid (by rw [HPS.out]; exact h1)
          have HS7 := hid h2
          clear h1 h2
          go_wp2
          exact ⟨⟨k + 1, by omega, by simp, ⟨_, _, _, HP7, HS7⟩, HB6⟩, by simp [intOf]; omega⟩
      · have HOK := hid (step_ok HKN.out HHA2.out (by rw [← HPU.out, List.take_of_length_le (by omega)]))
        obtain ⟨ac, cc, hvc⟩ := Nst.own_slice HSR.out.cond
        obtain ⟨ae, ce, hve⟩ := Nst.own_slice HSR.out.expr
        subst hvc
        subst hve
        obtain ⟨⟨r0, r1, r2, r3, r4, r5⟩, f0, f1, f2, f3, f4, f5⟩ := HRC.out wr HBR.out
        have m0 : wr.cell? ⟨S, 0, none⟩ = some (.int .i64 t.kind) := blk_cell HSR.out.blk 0
        have m1 : wr.cell? ⟨S, 1, none⟩ = some (.int .i64 t.parent) := blk_cell HSR.out.blk 1
        have m2 : wr.cell? ⟨S, 2, none⟩ = some (.string t.name) := blk_cell HSR.out.blk 2
        have m3 : wr.cell? ⟨S, 3, none⟩ = some (.int .i64 t.arg) := blk_cell HSR.out.blk 3
        have m4 : wr.cell? ⟨S, 4, none⟩ = some (.slice ac t.cond.length cc) := blk_cell HSR.out.blk 4
        have m5 : wr.cell? ⟨S, 5, none⟩ = some (.slice ae t.expr.length ce) := blk_cell HSR.out.blk 5
        go_wp2
        refine bodyPost_ret (v := .tuple #[.agg #[.int .i64 t.kind, .int .i64 t.parent, .string t.name, .int .i64 t.arg, .slice ac t.cond.length cc, .slice ae t.expr.length ce], .nilIface]) (by simp [results, Tryz.results40, go_sem, r0, r1, r2, r3, r4, r5]) rfl ⟨.inr ⟨HOK.out.1, _, _, by rw [HOK.out.2], ?_, ?_, HSR.out.off⟩, set6 (Below.trans HW1.out (HBR.out.mono HW1.out.size)) (by omega) _ _ _ _ _ _⟩
        · rw [HOK.out.2]
          exact Nst.own_mono (own6 HSR.out.cond (by omega) _ _ _ _ _ _) (by omega)
        · rw [HOK.out.2]
          exact Nst.own_mono (own6 HSR.out.expr (by omega) _ _ _ _ _ _) (by omega)
end Po
end Go.Proofs.YtahkpgffoiaeiaaGreatDoor
