/- A step is read from an element: the specification's l5Step. -/
import Derived.Test.YtahkpgffoiaeiaaGreatDoorJProcOf47
import Derived.Test.YtahkpgffoiaeiaaGreatDoorJProcOf33
namespace Go.Proofs.YtahkpgffoiaeiaaGreatDoor
open Go.RowKit
set_option linter.unusedVariables false
namespace Po
open Ex (hid inR nvals)
open Nd (NodeD)
open St (StepD)
open Tr (AttrD ElemD AttrsAt acode)
open Nst (own)
open Pf (kindN specKind)
open Tf (aIf SsAt specNames)
theorem countP_snoc {ns : List ByteArray} {p : ByteArray → Bool} {y : Nat} (h : y < ns.length) : (ns.take (y + 1)).countP p = (ns.take y).countP p + if p ns[y] = true then 1 else 0 := by
  rw [← List.take_append_getElem h, List.countP_append, List.countP_singleton]
theorem any_snoc {ns : List ByteArray} {p : ByteArray → Bool} {y : Nat} (h : y < ns.length) : (ns.take (y + 1)).any p = ((ns.take y).any p || p ns[y]) := by
  rw [← List.take_append_getElem h, List.any_append]; simp
theorem cnt_snoc {k : Int} {l : List AttrD} {x : Nat} (h : x < l.length) : cnt k (l.take (x + 1)) = cnt k (l.take x) + (namesK k).countP fun n => eqN n l[x].name := by
  unfold cnt
  rw [← List.take_append_getElem h, List.map_append, List.sum_append]; simp
theorem cnt_le (k : Int) : ∀ (l : List AttrD), cnt k l ≤ 2 * l.length
  | [] => by simp [cnt]
  | a :: r => by
    have h1 := cnt_le k r
    have h2 : ((namesK k).countP fun n => eqN n a.name) ≤ 2 := Nat.le_trans (List.countP_le_length ..) (names_len k)
    unfold cnt at h1 ⊢
    rw [List.map_cons, List.sum_cons, List.length_cons]
    omega
theorem has_cnt {k : Int} {l : List AttrD} (hc : acode l = 0) (h : ∀ j (hj : j < l.length), mine k l[j] = true) : cnt k l = (namesK k).length ↔ hasA k l = true := by
  rw [cnt_has hc]
  have h1 : (l.all fun a => eqN a.name aIf || (namesK k).any fun n => eqN n a.name) = true := by
    rw [List.all_eq_true]
    intro x hx
    obtain ⟨j, hj, rfl⟩ := List.getElem_of_mem hx
    exact h j hj
  unfold hasA
  rw [h1, Bool.true_and]
theorem sv_cells {w : World} {S : Nat} {s : StepD} {vc ve : Value} (h : SV w S s vc ve) : ∃ z0 z1 z2 z3 zc ze, w.cell? ⟨S, 0, none⟩ = some (.int .i64 z0) ∧ w.cell? ⟨S, 1, none⟩ = some (.int .i64 z1) ∧ w.cell? ⟨S, 2, none⟩ = some (.string z2) ∧ w.cell? ⟨S, 3, none⟩ = some (.int .i64 z3) ∧ w.cell? ⟨S, 4, none⟩ = some zc ∧ w.cell? ⟨S, 5, none⟩ = some ze ∧ (∃ a n c, zc = .slice a n c) ∧ ∃ a n c, ze = .slice a n c :=
  ⟨_, _, _, _, _, _, blk_cell h.blk 0, blk_cell h.blk 1, blk_cell h.blk 2, blk_cell h.blk 3, blk_cell h.blk 4, blk_cell h.blk 5, by obtain ⟨a, c, e⟩ := Nst.own_slice h.cond; exact ⟨a, _, c, e⟩, by obtain ⟨a, c, e⟩ := Nst.own_slice h.expr; exact ⟨a, _, c, e⟩⟩
/-- What the specification's reading of a step answers. -/
def SpecPost (el : ElemD) (w : World) (en : Ending) (w' : World) : Prop :=
  ((stepC el ≠ 0 ∧ ∃ z0 z1 z2 z3 a1 n1 c1 a2 n2 c2, en = .returned (.tuple #[.agg #[.int .i64 z0, .int .i64 z1, .string z2, .int .i64 z3, .slice a1 n1 c1, .slice a2 n2 c2], .int .i64 (stepC el)]))
    ∨ (stepC el = 0 ∧ ∃ a1 c1 a2 c2, en = .returned (.tuple #[.agg #[.int .i64 (stepS el).kind, .int .i64 (stepS el).parent, .string (stepS el).name, .int .i64 (stepS el).arg, .slice a1 (stepS el).cond.length c1, .slice a2 (stepS el).expr.length c2], .int .i64 0])
        ∧ w'.ownsRow w.heap.size 143 4 (.slice a1 (stepS el).cond.length c1) (stepS el).cond.length (nvals (stepS el).cond) ∧ w'.ownsRow w.heap.size 143 4 (.slice a2 (stepS el).expr.length c2) (stepS el).expr.length (nvals (stepS el).expr) ∧ ∀ b, own (.slice a1 (stepS el).cond.length c1) b → ¬ own (.slice a2 (stepS el).expr.length c2) b))
  ∧ Below w.heap.size w w'
set_option maxRecDepth 100000 in
set_option maxHeartbeats 8000000 in
theorem specStep (B g o : Nat) (el : ElemD) (v : Value) (w : World) (hc : acode el.attrs = 0) (h6 : el.attrs.length ≤ 6) (hg : g < w.heap.size) (c0 : w.cell? ⟨g, o, none⟩ = some (.string el.tag)) (c1 : w.cell? ⟨g, o + 1, none⟩ = some (.int .i64 el.parent)) (c2 : w.cell? ⟨g, o + 2, none⟩ = some v) (ha : AttrsAt w B v el.attrs) :
    Calls Tryz.prog 15 #[.pointer (some ⟨g, o, none⟩)] w (SpecPost el w) := by
  obtain ⟨a, cap, rfl⟩ := ha.slice
  have HAt := hid ha
  clear ha
  go_enter Tryz.func15, Tryz.ntmps15
  go_wp2_with fail
  have HW1 : Hid (Below w.heap.size w (w.alloc (.cells #[.int .i64 0, .int .i64 0, .string { data := #[] }, .int .i64 0, .slice none 0 0, .slice none 0 0] 42))) := hid ((Below.refl _ w).alloc (Nat.le_refl _) _)
  have hsz1 : (w.alloc (.cells #[.int .i64 0, .int .i64 0, .string { data := #[] }, .int .i64 0, .slice none 0 0, .slice none 0 0] 42)).heap.size = w.heap.size + 1 := by simp
  have HRB : Hid (∀ w', Below (w.alloc (.cells #[.int .i64 0, .int .i64 0, .string { data := #[] }, .int .i64 0, .slice none 0 0, .slice none 0 0] 42)).heap.size (w.alloc (.cells #[.int .i64 0, .int .i64 0, .string { data := #[] }, .int .i64 0, .slice none 0 0, .slice none 0 0] 42)) w' → w'.heap[w.heap.size]? = some (.cells #[.int .i64 0, .int .i64 0, .string { data := #[] }, .int .i64 0, .slice none 0 0, .slice none 0 0] 42)) := hid (fun w' hb => (hb.block _ (by rw [hsz1]; omega)).trans (heap_alloc_new _ _))
  have HKC : Hid (∀ w', Below (w.alloc (.cells #[.int .i64 0, .int .i64 0, .string { data := #[] }, .int .i64 0, .slice none 0 0, .slice none 0 0] 42)).heap.size (w.alloc (.cells #[.int .i64 0, .int .i64 0, .string { data := #[] }, .int .i64 0, .slice none 0 0, .slice none 0 0] 42)) w' → w'.cell? ⟨g, o, none⟩ = some (.string el.tag) ∧ w'.cell? ⟨g, o + 1, none⟩ = some (.int .i64 el.parent) ∧ w'.cell? ⟨g, o + 2, none⟩ = some (.slice a el.attrs.length cap) ∧ g < w'.heap.size) := hid (fun w' hb => by
    have hb2 := Below.trans HW1.out (hb.mono HW1.out.size)
    exact ⟨kept_cell hb2 hg c0, kept_cell hb2 hg c1, kept_cell hb2 hg c2, by have := hb2.size; omega⟩)
  generalize w.alloc (.cells #[.int .i64 0, .int .i64 0, .string { data := #[] }, .int .i64 0, .slice none 0 0, .slice none 0 0] 42) = w1 at *
  have HKS : Hid (∀ wx, Below w1.heap.size w1 wx → wx.cell? ⟨g, o, none⟩ = some (.string el.tag) ∧ wx.cell? ⟨g, o + 1, none⟩ = some (.int .i64 el.parent)) := hid (fun wx hb => ⟨(HKC.out wx hb).1, (HKC.out wx hb).2.1⟩)
  have HRC : Hid (∀ w', Below w1.heap.size w1 w' → ((w'.cell? ⟨w.heap.size, 0, none⟩ = some (.int .i64 0) ∧ w'.cell? ⟨w.heap.size, 1, none⟩ = some (.int .i64 0) ∧ w'.cell? ⟨w.heap.size, 2, none⟩ = some (.string { data := #[] }) ∧ w'.cell? ⟨w.heap.size, 3, none⟩ = some (.int .i64 0) ∧ w'.cell? ⟨w.heap.size, 4, none⟩ = some (.slice none 0 0) ∧ w'.cell? ⟨w.heap.size, 5, none⟩ = some (.slice none 0 0)) ∧ (w'.frozen? ⟨w.heap.size, 0, none⟩ = false ∧ w'.frozen? ⟨w.heap.size, 1, none⟩ = false ∧ w'.frozen? ⟨w.heap.size, 2, none⟩ = false ∧ w'.frozen? ⟨w.heap.size, 3, none⟩ = false ∧ w'.frozen? ⟨w.heap.size, 4, none⟩ = false ∧ w'.frozen? ⟨w.heap.size, 5, none⟩ = false))) := hid (fun w' hb => by
    have h := HRB.out w' hb
    exact ⟨⟨blk_cell h 0, blk_cell h 1, blk_cell h 2, blk_cell h 3, blk_cell h 4, blk_cell h 5⟩, ⟨blk_free h 0, blk_free h 1, blk_free h 2, blk_free h 3, blk_free h 4, blk_free h 5⟩⟩)
  have HBd : Hid (Below w1.heap.size w1 w1.drew) := hid (Below.refl _ w1).drew
  have HKD : Hid (∀ wx, Calls Tryz.prog 32 #[.string el.tag] wx fun e w' => e = .returned (.int .i64 (kindN el.tag)) ∧ Below wx.heap.size wx w') := hid (fun wx => specKind el.tag wx)
  have kc0 : w1.drew.cell? ⟨g, o, none⟩ = some (.string el.tag) ∧ w1.drew.cell? ⟨g, o + 1, none⟩ = some (.int .i64 el.parent) := HKS.out _ HBd.out
  have HSZ := hid hsz1
  clear c0 c1 c2 hsz1
  go_cut [4] from 11 (fun s4 wx => ∃ S, s4 = .pointer (some ⟨S, 0, none⟩) ∧ w1.heap.size ≤ S ∧ Hid (SV wx S (step0 el) (.slice none 0 0) (.slice none 0 0)) ∧ Hid (Below w1.heap.size w1 wx))
  case first =>
    generalize hkd : kindN el.tag = kd at *
    have HKD0 := hid hkd
    clear hkd
    refine wp_region_held_drew (S := fun wx => wx.cell? ⟨g, o, none⟩ = some (.string el.tag) ∧ wx.cell? ⟨g, o + 1, none⟩ = some (.int .i64 el.parent)) (by kernel_rfl) kc0 (fun hHeld => ?_)
    refine wpAnyH_take (i := 0) (oi := { dst := some 11, op := Go.Op.move (Go.Operand.tmp 0), type := 45, pos := "l05_form.go:124", after := #[], guard := none }) (v := .pointer (some ⟨g, o, none⟩)) rfl (by kernel_rfl) (by kernel_rfl) (by kernel_rfl) (fun _ _ _ h => h) (Or.inl ⟨by rfl, by intro w hSw; (try dsimp only at hSw); go_simp⟩) (by assumption) ?_
    simp only [Act.put, List.setIfInBounds_toArray, List.set_cons_zero, List.set_cons_succ]
    refine wpAnyH_take (i := 1) (oi := { dst := some 12, op := Go.Op.nilCheck (Go.Operand.tmp 11), type := 0, pos := "l05_form.go:124", after := #[{ on := 0, ground := Go.Ground.data }], guard := none }) (v := .pointer (some ⟨g, o, none⟩)) rfl (by kernel_rfl) (by kernel_rfl) (by kernel_rfl) (fun _ _ _ h => h) (Or.inl ⟨by rfl, by intro w hSw; (try dsimp only at hSw); go_simp⟩) (by assumption) ?_
    simp only [Act.put, List.setIfInBounds_toArray, List.set_cons_zero, List.set_cons_succ]
    refine wpAnyH_take (i := 2) (oi := { dst := some 13, op := Go.Op.fieldAddr 48 (Go.Operand.tmp 12) 0, type := 0, pos := "l05_form.go:124", after := #[{ on := 1, ground := Go.Ground.data }], guard := none }) (v := .pointer (some ⟨g, o, none⟩)) rfl (by kernel_rfl) (by kernel_rfl) (by kernel_rfl) (fun _ _ _ h => h) (Or.inl ⟨by rfl, by intro w hSw; (try dsimp only at hSw); go_simp⟩) (by assumption) ?_
    simp only [Act.put, List.setIfInBounds_toArray, List.set_cons_zero, List.set_cons_succ]
    refine wpAnyH_take (i := 3) (oi := { dst := some 14, op := Go.Op.load 9 (Go.Operand.tmp 13), type := 9, pos := "l05_form.go:124", after := #[{ on := 2, ground := Go.Ground.data }], guard := none }) (v := .string el.tag) rfl (by kernel_rfl) (by kernel_rfl) (by kernel_rfl) (fun _ _ _ h => h) (Or.inl ⟨by rfl, by intro w hSw; (try dsimp only at hSw); go_simp⟩) (by assumption) ?_
    simp only [Act.put, List.setIfInBounds_toArray, List.set_cons_zero, List.set_cons_succ]
    refine wpAnyH_take (i := 5) (oi := { dst := some 16, op := Go.Op.move (Go.Operand.tmp 0), type := 45, pos := "l05_form.go:124", after := #[], guard := none }) (v := .pointer (some ⟨g, o, none⟩)) rfl (by kernel_rfl) (by kernel_rfl) (by kernel_rfl) (fun _ _ _ h => h) (Or.inl ⟨by rfl, by intro w hSw; (try dsimp only at hSw); go_simp⟩) (by assumption) ?_
    simp only [Act.put, List.setIfInBounds_toArray, List.set_cons_zero, List.set_cons_succ]
    refine wpAnyH_take (i := 6) (oi := { dst := some 17, op := Go.Op.nilCheck (Go.Operand.tmp 16), type := 0, pos := "l05_form.go:124", after := #[{ on := 5, ground := Go.Ground.data }], guard := none }) (v := .pointer (some ⟨g, o, none⟩)) rfl (by kernel_rfl) (by kernel_rfl) (by kernel_rfl) (fun _ _ _ h => h) (Or.inl ⟨by rfl, by intro w hSw; (try dsimp only at hSw); go_simp⟩) (by assumption) ?_
    simp only [Act.put, List.setIfInBounds_toArray, List.set_cons_zero, List.set_cons_succ]
    refine wpAnyH_take (i := 7) (oi := { dst := some 18, op := Go.Op.fieldAddr 48 (Go.Operand.tmp 17) 1, type := 0, pos := "l05_form.go:124", after := #[{ on := 6, ground := Go.Ground.data }], guard := none }) (v := .pointer (some ⟨g, o + 1, none⟩)) rfl (by kernel_rfl) (by kernel_rfl) (by kernel_rfl) (fun _ _ _ h => h) (Or.inl ⟨by rfl, by intro w hSw; (try dsimp only at hSw); go_simp⟩) (by assumption) ?_
    simp only [Act.put, List.setIfInBounds_toArray, List.set_cons_zero, List.set_cons_succ]
    refine wpAnyH_take (i := 8) (oi := { dst := some 19, op := Go.Op.load 2 (Go.Operand.tmp 18), type := 2, pos := "l05_form.go:124", after := #[{ on := 7, ground := Go.Ground.data }], guard := none }) (v := .int .i64 el.parent) rfl (by kernel_rfl) (by kernel_rfl) (by kernel_rfl) (fun _ _ _ h => h) (Or.inl ⟨by rfl, by intro w hSw; (try dsimp only at hSw); go_simp⟩) (by assumption) ?_
    simp only [Act.put, List.setIfInBounds_toArray, List.set_cons_zero, List.set_cons_succ]
    refine wpAnyH_ready (rs := [4, 10]) (by kernel_rfl) (by simp) ?_
    refine (AllReadyH.cons (o := { dst := some 15, op := Go.Op.call { callee := Go.Callee.value (Go.Operand.func 32), args := #[Go.Operand.tmp 14], argTypes := #[9] }, type := 2, pos := "l05_form.go:124", after := #[{ on := 3, ground := Go.Ground.data }], guard := none }) rfl (fun K hK => ?_) (AllReadyH.cons (o := { dst := some 4, op := Go.Op.alloc 42, type := 0, pos := "l05_form.go:124", after := #[], guard := none }) rfl (fun K hK => ?_) AllReadyH.nil))
    · go_simp
      go_at_call 32
      refine (HKD.out _).mono ?_
      rintro e w3 ⟨rfl, hb3⟩
      have HB3 : Hid (Below w1.heap.size w1 w3) := hid (Below.trans HBd.out (hb3.mono HBd.out.size))
      have kc3 := HKS.out _ HB3.out
      have hs3 : w1.heap.size ≤ w3.heap.size := HB3.out.size
      clear hb3
      go_wp2_with fail
      refine hK.out _ _ kc3 (fun hHeld => ?_)
      clear hK K
      try simp only [Act.put, List.setIfInBounds_toArray, List.set_cons_zero, List.set_cons_succ]
      refine wpAnyH_take (i := 9) (oi := { dst := some 20, op := Go.Op.build 42 #[(0, Go.Operand.tmp 15), (1, Go.Operand.tmp 19)], type := 42, pos := "l05_form.go:124", after := #[{ on := 4, ground := Go.Ground.data }, { on := 8, ground := Go.Ground.data }], guard := none }) (v := .agg #[.int .i64 kd, .int .i64 el.parent, .string ⟨#[]⟩, .int .i64 0, .slice none 0 0, .slice none 0 0]) rfl (by kernel_rfl) (by kernel_rfl) (by kernel_rfl) (fun _ _ _ h => h) (Or.inl ⟨by rfl, by intro w hSw; (try dsimp only at hSw); go_simp⟩) (by assumption) ?_
      simp only [Act.put, List.setIfInBounds_toArray, List.set_cons_zero, List.set_cons_succ]
      refine wpAnyH_ready (rs := [10]) (by kernel_rfl) (by simp) ?_
      refine (AllReadyH.cons (o := { dst := some 4, op := Go.Op.alloc 42, type := 0, pos := "l05_form.go:124", after := #[], guard := none }) rfl (fun K hK => ?_) AllReadyH.nil)
      go_simp
      have hsb := heap_alloc_new w3 (.cells #[.int .i64 0, .int .i64 0, .string { data := #[] }, .int .i64 0, .slice none 0 0, .slice none 0 0] 42)
      have HB4 : Hid (Below w1.heap.size w1 (w3.alloc (.cells #[.int .i64 0, .int .i64 0, .string { data := #[] }, .int .i64 0, .slice none 0 0, .slice none 0 0] 42))) := hid (HB3.out.alloc HB3.out.size _)
      have hS : w1.heap.size ≤ w3.heap.size := hs3
      generalize w3.alloc (.cells #[.int .i64 0, .int .i64 0, .string { data := #[] }, .int .i64 0, .slice none 0 0, .slice none 0 0] 42) = w4 at *
      refine hK.out _ _ (HKS.out _ HB4.out) (fun hHeld => ?_)
      clear hK K
      try simp only [Act.put, List.setIfInBounds_toArray, List.set_cons_zero, List.set_cons_succ]
      have t0 := blk_free hsb 0
      have t1 := blk_free hsb 1
      have t2 := blk_free hsb 2
      have t3 := blk_free hsb 3
      have t4 := blk_free hsb 4
      have t5 := blk_free hsb 5
      have s0 : w4.cell? ⟨w3.heap.size, 0, none⟩ = some (.int .i64 0) := blk_cell hsb 0
      have s1 : w4.cell? ⟨w3.heap.size, 1, none⟩ = some (.int .i64 0) := blk_cell hsb 1
      have s2 : w4.cell? ⟨w3.heap.size, 2, none⟩ = some (.string { data := #[] }) := blk_cell hsb 2
      have s3 : w4.cell? ⟨w3.heap.size, 3, none⟩ = some (.int .i64 0) := blk_cell hsb 3
      have s4 : w4.cell? ⟨w3.heap.size, 4, none⟩ = some (.slice none 0 0) := blk_cell hsb 4
      have s5 : w4.cell? ⟨w3.heap.size, 5, none⟩ = some (.slice none 0 0) := blk_cell hsb 5
      refine wpAnyH_ready (rs := [11]) (by kernel_rfl) (by simp) ?_
      refine (AllReadyH.cons (o := { dst := none, op := Go.Op.store 42 (Go.Operand.tmp 4) (Go.Operand.tmp 20), type := 0, pos := "l05_form.go:124", after := #[{ on := 10, ground := Go.Ground.data }, { on := 9, ground := Go.Ground.data }, { on := 4, ground := Go.Ground.chain }, { on := 0, ground := Go.Ground.phase }, { on := 1, ground := Go.Ground.phase }, { on := 2, ground := Go.Ground.phase }, { on := 3, ground := Go.Ground.phase }, { on := 4, ground := Go.Ground.phase }, { on := 5, ground := Go.Ground.phase }, { on := 6, ground := Go.Ground.phase }, { on := 7, ground := Go.Ground.phase }, { on := 8, ground := Go.Ground.phase }, { on := 9, ground := Go.Ground.phase }, { on := 10, ground := Go.Ground.phase }], guard := none }) rfl (fun K hK => ?_) AllReadyH.nil)
      go_simp
      refine hK.out _ _ (HKS.out _ (set6 HB4.out hS _ _ _ _ _ _)) (fun hHeld => ?_)
      clear hK K
      try simp only [Act.put, List.setIfInBounds_toArray, List.set_cons_zero, List.set_cons_succ]
      refine wpAnyH_done (by kernel_rfl) ?_ _
      go_wp2_with fail
      go_meet
      exact ⟨w3.heap.size, rfl, hS, hid (sv0 hsb HKD0.out), hid (set6 HB4.out hS _ _ _ _ _ _)⟩
    · go_simp
      have hsa : (w1.alloc (.cells #[.int .i64 0, .int .i64 0, .string { data := #[] }, .int .i64 0, .slice none 0 0, .slice none 0 0] 42)).drew.heap[w1.heap.size]? = some (.cells #[.int .i64 0, .int .i64 0, .string { data := #[] }, .int .i64 0, .slice none 0 0, .slice none 0 0] 42) := heap_alloc_new w1 (.cells #[.int .i64 0, .int .i64 0, .string { data := #[] }, .int .i64 0, .slice none 0 0, .slice none 0 0] 42)
      have HBA : Hid (Below w1.heap.size w1 (w1.alloc (.cells #[.int .i64 0, .int .i64 0, .string { data := #[] }, .int .i64 0, .slice none 0 0, .slice none 0 0] 42)).drew) := hid ((Below.refl _ w1).alloc (Nat.le_refl _) _).drew
      have hla : w1.heap.size < (w1.alloc (.cells #[.int .i64 0, .int .i64 0, .string { data := #[] }, .int .i64 0, .slice none 0 0, .slice none 0 0] 42)).drew.heap.size := by simp
      generalize (w1.alloc (.cells #[.int .i64 0, .int .i64 0, .string { data := #[] }, .int .i64 0, .slice none 0 0, .slice none 0 0] 42)).drew = w4a at *
      refine hK.out _ _ (HKS.out _ HBA.out) (fun hHeld => ?_)
      clear hK K
      try simp only [Act.put, List.setIfInBounds_toArray, List.set_cons_zero, List.set_cons_succ]
      refine wpAnyH_ready (rs := [4]) (by kernel_rfl) (by simp) ?_
      refine (AllReadyH.cons (o := { dst := some 15, op := Go.Op.call { callee := Go.Callee.value (Go.Operand.func 32), args := #[Go.Operand.tmp 14], argTypes := #[9] }, type := 2, pos := "l05_form.go:124", after := #[{ on := 3, ground := Go.Ground.data }], guard := none }) rfl (fun K hK => ?_) AllReadyH.nil)
      go_simp
      go_at_call 32
      refine (HKD.out _).mono ?_
      rintro e w3 ⟨rfl, hb3⟩
      have HB3 : Hid (Below w1.heap.size w1 w3) := hid (Below.trans HBA.out (hb3.mono HBA.out.size))
      have kc3 := HKS.out _ HB3.out
      have hs3 : w1.heap.size ≤ w3.heap.size := HB3.out.size
      have hsb : w3.heap[w1.heap.size]? = some (.cells #[.int .i64 0, .int .i64 0, .string { data := #[] }, .int .i64 0, .slice none 0 0, .slice none 0 0] 42) := (hb3.block _ hla).trans hsa
      clear hb3
      go_wp2_with fail
      refine hK.out _ _ kc3 (fun hHeld => ?_)
      clear hK K
      try simp only [Act.put, List.setIfInBounds_toArray, List.set_cons_zero, List.set_cons_succ]
      refine wpAnyH_take (i := 9) (oi := { dst := some 20, op := Go.Op.build 42 #[(0, Go.Operand.tmp 15), (1, Go.Operand.tmp 19)], type := 42, pos := "l05_form.go:124", after := #[{ on := 4, ground := Go.Ground.data }, { on := 8, ground := Go.Ground.data }], guard := none }) (v := .agg #[.int .i64 kd, .int .i64 el.parent, .string ⟨#[]⟩, .int .i64 0, .slice none 0 0, .slice none 0 0]) rfl (by kernel_rfl) (by kernel_rfl) (by kernel_rfl) (fun _ _ _ h => h) (Or.inl ⟨by rfl, by intro w hSw; (try dsimp only at hSw); go_simp⟩) (by assumption) ?_
      simp only [Act.put, List.setIfInBounds_toArray, List.set_cons_zero, List.set_cons_succ]
      have HB4 := HB3
      have hS : w1.heap.size ≤ w1.heap.size := Nat.le_refl _
      have t0 := blk_free hsb 0
      have t1 := blk_free hsb 1
      have t2 := blk_free hsb 2
      have t3 := blk_free hsb 3
      have t4 := blk_free hsb 4
      have t5 := blk_free hsb 5
      have s0 : w3.cell? ⟨w1.heap.size, 0, none⟩ = some (.int .i64 0) := blk_cell hsb 0
      have s1 : w3.cell? ⟨w1.heap.size, 1, none⟩ = some (.int .i64 0) := blk_cell hsb 1
      have s2 : w3.cell? ⟨w1.heap.size, 2, none⟩ = some (.string { data := #[] }) := blk_cell hsb 2
      have s3 : w3.cell? ⟨w1.heap.size, 3, none⟩ = some (.int .i64 0) := blk_cell hsb 3
      have s4 : w3.cell? ⟨w1.heap.size, 4, none⟩ = some (.slice none 0 0) := blk_cell hsb 4
      have s5 : w3.cell? ⟨w1.heap.size, 5, none⟩ = some (.slice none 0 0) := blk_cell hsb 5
      refine wpAnyH_ready (rs := [11]) (by kernel_rfl) (by simp) ?_
      refine (AllReadyH.cons (o := { dst := none, op := Go.Op.store 42 (Go.Operand.tmp 4) (Go.Operand.tmp 20), type := 0, pos := "l05_form.go:124", after := #[{ on := 10, ground := Go.Ground.data }, { on := 9, ground := Go.Ground.data }, { on := 4, ground := Go.Ground.chain }, { on := 0, ground := Go.Ground.phase }, { on := 1, ground := Go.Ground.phase }, { on := 2, ground := Go.Ground.phase }, { on := 3, ground := Go.Ground.phase }, { on := 4, ground := Go.Ground.phase }, { on := 5, ground := Go.Ground.phase }, { on := 6, ground := Go.Ground.phase }, { on := 7, ground := Go.Ground.phase }, { on := 8, ground := Go.Ground.phase }, { on := 9, ground := Go.Ground.phase }, { on := 10, ground := Go.Ground.phase }], guard := none }) rfl (fun K hK => ?_) AllReadyH.nil)
      go_simp
      refine hK.out _ _ (HKS.out _ (set6 HB4.out hS _ _ _ _ _ _)) (fun hHeld => ?_)
      clear hK K
      try simp only [Act.put, List.setIfInBounds_toArray, List.set_cons_zero, List.set_cons_succ]
      refine wpAnyH_done (by kernel_rfl) ?_ _
      go_wp2_with fail
      go_meet
      exact ⟨w1.heap.size, rfl, hS, hid (sv0 hsb HKD0.out), hid (set6 HB4.out hS _ _ _ _ _ _)⟩
  case rest =>
    obtain ⟨S, rfl, hS1, HSV, HBC⟩ := hcut
    have m0 : wc.cell? ⟨S, 0, none⟩ = some (.int .i64 (kindN el.tag)) := blk_cell HSV.out.blk 0
    have m1 : wc.cell? ⟨S, 1, none⟩ = some (.int .i64 el.parent) := blk_cell HSV.out.blk 1
    have m2 : wc.cell? ⟨S, 2, none⟩ = some (.string { data := #[] }) := blk_cell HSV.out.blk 2
    have m3 : wc.cell? ⟨S, 3, none⟩ = some (.int .i64 0) := blk_cell HSV.out.blk 3
    have m4 : wc.cell? ⟨S, 4, none⟩ = some (.slice none 0 0) := blk_cell HSV.out.blk 4
    have m5 : wc.cell? ⟨S, 5, none⟩ = some (.slice none 0 0) := blk_cell HSV.out.blk 5
    by_cases hk0 : kindN el.tag = 0
    · have HC4 := hid (step_none hk0)
      obtain ⟨⟨r0, r1, r2, r3, r4, r5⟩, f0, f1, f2, f3, f4, f5⟩ := HRC.out wc HBC.out
      rw [hk0] at m0
      clear hk0
      go_wp2
      refine bodyPost_ret (v := .tuple #[.agg #[.int .i64 0, .int .i64 el.parent, .string { data := #[] }, .int .i64 0, .slice none 0 0, .slice none 0 0], .int .i64 4]) (by simp [results, Tryz.results15, go_sem, r0, r1, r2, r3, r4, r5]) rfl ⟨.inl ⟨by rw [HC4.out]; decide, _, _, _, _, _, _, _, _, _, _, by rw [HC4.out]⟩, set6 (Below.trans HW1.out (HBC.out.mono HW1.out.size)) (Nat.le_refl _) _ _ _ _ _ _⟩
    have HNM := hid (specNames ⟨kindN el.tag, 0, ByteArray.empty, 0, [], []⟩ wc (kind_in hk0))
    rw [names_eq] at HNM
    have HK0 := hid hk0
    have b0 : (kindN el.tag == 0) = false := by simpa using hk0
    clear hk0
    go_wp2_with fail
    refine HNM.out.mono ?_
    rintro e w5 ⟨v5, rfl, hs5, hb5⟩
    change SsAt w5 wc.heap.size w5.heap.size v5 (namesK (kindN el.tag)) at hs5
    obtain ⟨a5, c5, rfl⟩ := hs5.slice
    have HB5 : Hid (Below w1.heap.size w1 w5) := hid (Below.trans HBC.out (hb5.mono HBC.out.size))
    have HSV5 := hid (HSV.out.keep hb5)
    have HS5 := hid hs5
    have HNL := hid (names_len (kindN el.tag))
    clear m0 m1 m2 m3 m4 m5 hs5 hb5 b0 HNM
    have HMN : Hid (∀ j (hj : j < el.attrs.length), mine (kindN el.tag) el.attrs[j] = (eqN el.attrs[j].name aIf || (namesK (kindN el.tag)).any fun n => eqN n el.attrs[j].name)) := hid (fun _ _ => rfl)
    have HCN : Hid (∀ x (hx : x < el.attrs.length), cnt (kindN el.tag) (el.attrs.take (x + 1)) = cnt (kindN el.tag) (el.attrs.take x) + (namesK (kindN el.tag)).countP fun n => eqN n el.attrs[x].name) := hid (fun x hx => cnt_snoc hx)
    have HCL : Hid (∀ x, x ≤ el.attrs.length → cnt (kindN el.tag) (el.attrs.take x) ≤ 12) := hid (fun x hx => by have := cnt_le (kindN el.tag) (el.attrs.take x); simp at this; omega)
    have HBAD : Hid (hasA (kindN el.tag) el.attrs = false ∨ putAll (step0 el) el.attrs = none → stepC el = 5) := hid (fun h => step_bad HK0.out h)
    have HN1 : Hid (∀ j (hj : j < el.attrs.length), mine (kindN el.tag) el.attrs[j] = false → hasA (kindN el.tag) el.attrs = false) := hid (fun j hj h => has_no1 hj h)
    have HN2 : Hid ((∀ j (hj : j < el.attrs.length), mine (kindN el.tag) el.attrs[j] = true) → (cnt (kindN el.tag) el.attrs = (namesK (kindN el.tag)).length ↔ hasA (kindN el.tag) el.attrs = true)) := hid (fun h => has_cnt hc h)
    have HV40 : Hid (∀ b ∈ el.attrs, b.value.size ≤ 40) := hid (fun b hb => (acode_pre el.attrs [] hc b hb).2)
    have HKN := hid (fun (h : hasA (kindN el.tag) el.attrs = true) (s : StepD) (h2 : putAll (step0 el) el.attrs = some s) => step_ok HK0.out h h2)
    have HMC : Hid (∀ j (hj : j < el.attrs.length), ∃ b, mine (kindN el.tag) el.attrs[j] = b) := hid (fun _ _ => ⟨_, rfl⟩)
    obtain ⟨e0, e1, e2, hgl⟩ := HKC.out w5 HB5.out
    have hnl := HNL.out
    generalize hkd : kindN el.tag = kd at *
    have HKD1 := hid hkd
    clear hkd
    generalize hns : namesK kd = ns at *
    have HNS := hid hns
    clear hns
    have hsl : (0 : Int) ≤ (ns.length : Int) := by omega
    go_wp2_with fail
    go_loopw [6, 7] (fun n i wr => ∃ x : Nat, x ≤ el.attrs.length ∧ i = .int .i64 x ∧ n = .int .i64 (cnt kd (el.attrs.take x) : Int) ∧ Hid (∀ j (hj : j < el.attrs.length), j < x → mine kd el.attrs[j] = true) ∧ Hid (Below w5.heap.size w5 wr)) (fun _ i _ => el.attrs.length - (intOf i).toNat)
    case atStart => exact ⟨0, Nat.zero_le _, rfl, rfl, hid (fun j _ h => by omega), hid (Below.refl _ _)⟩
    case round =>
      obtain ⟨x, hx, rfl, rfl, HJ, HBO⟩ := hrel
      obtain ⟨wo, hwo⟩ : ∃ wo, wo = wr := ⟨wr, rfl⟩
      rw [← hwo] at HBO ⊢
      clear hwo
      have E2 := kept_cell HBO.out hgl e2
      have hgo : g < wo.heap.size := Nat.lt_of_lt_of_le hgl HBO.out.size
      by_cases hlt : x < el.attrs.length
      · obtain ⟨ga, oa, rfl, hga, d0, d1⟩ := ((HAt.out.below HW1.out).below HB5.out).at hlt
        have D0 := kept_cell HBO.out hga d0
        have q1 : (x : Int) < (el.attrs.length : Int) := by omega
        have hE0 : (el.attrs[x].name.toList == [105, 102]) = eqN el.attrs[x].name aIf := by rw [← aIf_l]
        have HCX := hid (HCN.out x hlt)
        have hcl := HCL.out x (by omega)
        have HMX := hid (HMN.out x hlt)
        have HN1X := hid (HN1.out x hlt)
        have HJ2 : mine kd el.attrs[x] = true → Hid (∀ j (hj : j < el.attrs.length), j < x + 1 → mine kd el.attrs[j] = true) := fun hy => hid (fun j hj h => by
          by_cases e : j = x
          · subst e; exact hy
          · exact HJ.out j hj (by omega))
        generalize mine kd el.attrs[x] = mx at *
        generalize el.attrs[x].name = nm at *
        generalize hcx : cnt kd (el.attrs.take x) = cx at *
        generalize eqN nm aIf = ei at *
        clear hcx
        go_wp2_with fail
        go_loopw [6, 8, 9] (fun n m k wr => ∃ y : Nat, y ≤ ns.length ∧ k = .int .i64 y ∧ n = .int .i64 ((cx + (ns.take y).countP (fun n => eqN n nm) : Nat) : Int) ∧ m = .bool (ei || (ns.take y).any fun n => eqN n nm) ∧ Hid (Below w5.heap.size w5 wr)) (fun _ _ k _ => ns.length - (intOf k).toNat)
        case atStart => exact ⟨0, Nat.zero_le _, rfl, by simp, by simp, HBO⟩
        case round =>
          obtain ⟨y, hy, rfl, rfl, rfl, HBI⟩ := hrel
          have F2 := kept_cell HBI.out hgl e2
          have G0 := kept_cell HBI.out hga d0
          have hgi : g < wr.heap.size := Nat.lt_of_lt_of_le hgl HBI.out.size
          by_cases hyl : y < ns.length
          · obtain ⟨gn, on, rfl, hgn, _, n0⟩ := (HS5.out.keep (fun q _ hq => HBI.out.block q hq)).at hyl
            have q2 : (y : Int) < (ns.length : Int) := by omega
            have HCP := hid (countP_snoc (p := fun n => eqN n nm) hyl)
            have HAP := hid (any_snoc (p := fun n => eqN n nm) hyl)
            have hcy : (ns.take y).countP (fun n => eqN n nm) ≤ 2 := Nat.le_trans (List.countP_le_length ..) (by simp; omega)
            cases hE : (ns[y].toList == nm.toList)
            · have HE := hid (show eqN ns[y] nm = false from hE)
              generalize (ns.take y).countP (fun n => eqN n nm) = cy at *
              generalize ((ns.take y).any fun n => eqN n nm) = ay at *
              go_wp2
              go_region
              all_goals go_wp2
              all_goals exact ⟨⟨y + 1, by omega, by simp, by rw [HCP.out, HE.out]; simp, by rw [HAP.out, HE.out]; simp, hid HBI.out.drew⟩, by simp [intOf]; omega⟩
            · have HE := hid (show eqN ns[y] nm = true from hE)
              generalize (ns.take y).countP (fun n => eqN n nm) = cy at *
              generalize ((ns.take y).any fun n => eqN n nm) = ay at *
              go_wp2
              go_region
              all_goals go_wp2
              all_goals exact ⟨⟨y + 1, by omega, by simp, by rw [HCP.out, HE.out]; simp; omega, by rw [HAP.out, HE.out]; simp, hid HBI.out.drew⟩, by simp [intOf]; omega⟩
          · have q2 : ¬ (y : Int) < (ns.length : Int) := by omega
            have hyn : y = ns.length := by omega
            rw [hyn, List.take_length]
            rw [← HCX.out, ← HMX.out]
            cases mx
            · have HC5 := hid (HBAD.out (.inl (HN1X.out rfl)))
              have HB7 : Hid (Below w1.heap.size w1 wr) := hid (HB5.out.trans (HBI.out.mono HB5.out.size))
              obtain ⟨⟨r0, r1, r2, r3, r4, r5⟩, f0, f1, f2, f3, f4, f5⟩ := HRC.out wr HB7.out
              obtain ⟨z0, z1, z2, z3, zc, ze, m0, m1, m2, m3, m4, m5, hzc, hze⟩ := sv_cells (HSV5.out.keep HBI.out)
              obtain ⟨ac0, nc0, cc0, rfl⟩ := hzc
              obtain ⟨ae0, ne0, ce0, rfl⟩ := hze
              go_wp2
              refine bodyPost_ret (v := .tuple #[.agg #[.int .i64 z0, .int .i64 z1, .string z2, .int .i64 z3, .slice ac0 nc0 cc0, .slice ae0 ne0 ce0], .int .i64 5]) (by simp [results, Tryz.results15, go_sem, r0, r1, r2, r3, r4, r5]) rfl ⟨.inl ⟨by rw [HC5.out]; decide, _, _, _, _, _, _, _, _, _, _, by rw [HC5.out]⟩, set6 (Below.trans HW1.out (HB7.out.mono HW1.out.size)) (Nat.le_refl _) _ _ _ _ _ _⟩
            · have HJ3 := HJ2 rfl
              clear HJ2
              go_wp2
              exact ⟨⟨x + 1, by omega, by simp, rfl, HJ3, HBI⟩, by simp [intOf]; omega⟩
      · have q1 : ¬ (x : Int) < (el.attrs.length : Int) := by omega
        have hxn : x = el.attrs.length := by omega
        have HIF := hid (HN2.out (fun j hj => HJ.out j hj (by omega)))
        rw [hxn, List.take_length]
        generalize cnt kd el.attrs = cx at *
        have HB7 : Hid (Below w1.heap.size w1 wo) := hid (HB5.out.trans (HBO.out.mono HB5.out.size))
        obtain ⟨⟨r0, r1, r2, r3, r4, r5⟩, f0, f1, f2, f3, f4, f5⟩ := HRC.out wo HB7.out
        obtain ⟨z0, z1, z2, z3, zc, ze, m0, m1, m2, m3, m4, m5, hzc, hze⟩ := sv_cells (HSV5.out.keep HBO.out)
        obtain ⟨ac0, nc0, cc0, rfl⟩ := hzc
        obtain ⟨ae0, ne0, ce0, rfl⟩ := hze
        by_cases hcn : cx = ns.length
        · have HYES := hid (HIF.out.1 hcn)
          have b1 : ((cx : Int) == (ns.length : Int)) = true := by simp [hcn]
          have HSV7 := hid (HSV5.out.keep HBO.out)
          clear hcn r0 r1 r2 r3 r4 r5 f0 f1 f2 f3 f4 f5 m0 m1 m2 m3 m4 m5
          go_wp2_with fail
          go_loopw [10] (fun i wr => ∃ k : Nat, k ≤ el.attrs.length ∧ i = .int .i64 k ∧ (∃ t vc ve, Hid (putAll (step0 el) (el.attrs.take k) = some t) ∧ Hid (SV wr S t vc ve)) ∧ Hid (Below w1.heap.size w1 wr)) (fun i _ => el.attrs.length - (intOf i).toNat)
          case atStart => exact ⟨0, Nat.zero_le _, rfl, ⟨_, _, _, hid rfl, HSV7⟩, HB7⟩
          case round =>
            obtain ⟨k, hk, rfl, ⟨t, vc, ve, HPU, HSR⟩, HBR⟩ := hrel
            obtain ⟨-, -, G2, hgr⟩ := HKC.out wr HBR.out
            by_cases hlt : k < el.attrs.length
            · obtain ⟨ga, oa, rfl, hga, d0, d1⟩ := HAt.out.at hlt
              have HBW := hid (Below.trans HW1.out (HBR.out.mono HW1.out.size))
              have q3 : (k : Int) < (el.attrs.length : Int) := by omega
              have hgS : ga ≠ S := by have := HSZ.out; omega
              have D0 := kept_cell HBW.out hga d0
              have D1 := kept_cell HBW.out hga d1
              have HCT := hid (specPut S ga (oa + k * 2) t el.attrs[k] vc ve wr (HV40.out _ (List.getElem_mem hlt)) HSR.out hgS D0 D1)
              have HPS := hid (put_step hlt HPU.out)
              have HPN := hid (put_none hlt HPU.out)
              go_wp2_with fail
              refine HCT.out.mono ?_
              rintro e w6 ⟨hd, ho⟩
              have HB7 : Hid (Below w1.heap.size w1 w6) := hid (Off.below HBR.out ho hS1)
              clear ho
              rcases hd with ⟨h1, rfl, z0, z1, z2, z3, ac0, nc0, cc0, ae0, ne0, ce0, hsx⟩ | ⟨s', vc', ve', h1, rfl, h2⟩
              · have HC5 := hid (HBAD.out (.inr (HPN.out h1)))
                obtain ⟨⟨r0, r1, r2, r3, r4, r5⟩, f0, f1, f2, f3, f4, f5⟩ := HRC.out w6 HB7.out
                have m0 : w6.cell? ⟨S, 0, none⟩ = some (.int .i64 z0) := blk_cell hsx 0
                have m1 : w6.cell? ⟨S, 1, none⟩ = some (.int .i64 z1) := blk_cell hsx 1
                have m2 : w6.cell? ⟨S, 2, none⟩ = some (.string z2) := blk_cell hsx 2
                have m3 : w6.cell? ⟨S, 3, none⟩ = some (.int .i64 z3) := blk_cell hsx 3
                have m4 : w6.cell? ⟨S, 4, none⟩ = some (.slice ac0 nc0 cc0) := blk_cell hsx 4
                have m5 : w6.cell? ⟨S, 5, none⟩ = some (.slice ae0 ne0 ce0) := blk_cell hsx 5
                clear h1 hsx
                go_wp2
                refine bodyPost_ret (v := .tuple #[.agg #[.int .i64 z0, .int .i64 z1, .string z2, .int .i64 z3, .slice ac0 nc0 cc0, .slice ae0 ne0 ce0], .int .i64 5]) (by simp [results, Tryz.results15, go_sem, r0, r1, r2, r3, r4, r5]) rfl ⟨.inl ⟨by rw [HC5.out]; decide, _, _, _, _, _, _, _, _, _, _, by rw [HC5.out]⟩, set6 (Below.trans HW1.out (HB7.out.mono HW1.out.size)) (Nat.le_refl _) _ _ _ _ _ _⟩
              · have HP7 : Hid (putAll (step0 el) (el.attrs.take (k + 1)) = some s') := hid (by rw [HPS.out]; exact h1)
                have HS7 := hid h2
                clear h1 h2
                go_wp2
                exact ⟨⟨k + 1, by omega, by simp, ⟨_, _, _, HP7, HS7⟩, HB7⟩, by simp [intOf]; omega⟩
            · have q3 : ¬ (k : Int) < (el.attrs.length : Int) := by omega
              have HOK := hid (HKN.out HYES.out t (by rw [← HPU.out, List.take_of_length_le (by omega)]))
              obtain ⟨ac, cc, hvc⟩ := Nst.own_slice HSR.out.cond
              obtain ⟨ae, ce, hve⟩ := Nst.own_slice HSR.out.expr
              subst hvc
              subst hve
              obtain ⟨⟨r0, r1, r2, r3, r4, r5⟩, f0, f1, f2, f3, f4, f5⟩ := HRC.out wr HBR.out
              have m0 : wr.cell? ⟨S, 0, none⟩ = some (.int .i64 t.kind) := blk_cell HSR.out.blk 0
              have m1 : wr.cell? ⟨S, 1, none⟩ = some (.int .i64 t.parent) := blk_cell HSR.out.blk 1
              have m2 : wr.cell? ⟨S, 2, none⟩ = some (.string t.name) := blk_cell HSR.out.blk 2
              have m3 : wr.cell? ⟨S, 3, none⟩ = some (.int .i64 t.arg) := blk_cell HSR.out.blk 3
              have m4 : wr.cell? ⟨S, 4, none⟩ = some (.slice ac t.cond.length cc) := blk_cell HSR.out.blk 4
              have m5 : wr.cell? ⟨S, 5, none⟩ = some (.slice ae t.expr.length ce) := blk_cell HSR.out.blk 5
              go_wp2
              refine bodyPost_ret (v := .tuple #[.agg #[.int .i64 t.kind, .int .i64 t.parent, .string t.name, .int .i64 t.arg, .slice ac t.cond.length cc, .slice ae t.expr.length ce], .int .i64 0]) (by simp [results, Tryz.results15, go_sem, r0, r1, r2, r3, r4, r5]) rfl ⟨.inr ⟨HOK.out.1, ac, cc, ae, ce, by rw [HOK.out.2], ?_, ?_, by rw [HOK.out.2]; exact HSR.out.off⟩, set6 (Below.trans HW1.out (HBR.out.mono HW1.out.size)) (Nat.le_refl _) _ _ _ _ _ _⟩
              · rw [HOK.out.2]
                exact Nst.own_mono (own6 HSR.out.cond (by have := HSZ.out; omega) _ _ _ _ _ _) (by have := HSZ.out; omega)
              · rw [HOK.out.2]
                exact Nst.own_mono (own6 HSR.out.expr (by have := HSZ.out; omega) _ _ _ _ _ _) (by have := HSZ.out; omega)
        · have HNO : Hid (hasA kd el.attrs = false) := hid (by
            cases hh : hasA kd el.attrs
            · rfl
            · exact absurd (HIF.out.2 hh) hcn)
          have HC5 := hid (HBAD.out (.inl HNO.out))
          have b1 : ((cx : Int) == (ns.length : Int)) = false := by simp; omega
          clear hcn
          go_wp2
          refine bodyPost_ret (v := .tuple #[.agg #[.int .i64 z0, .int .i64 z1, .string z2, .int .i64 z3, .slice ac0 nc0 cc0, .slice ae0 ne0 ce0], .int .i64 5]) (by simp [results, Tryz.results15, go_sem, r0, r1, r2, r3, r4, r5]) rfl ⟨.inl ⟨by rw [HC5.out]; decide, _, _, _, _, _, _, _, _, _, _, by rw [HC5.out]⟩, set6 (Below.trans HW1.out (HB7.out.mono HW1.out.size)) (Nat.le_refl _) _ _ _ _ _ _⟩
end Po
end Go.Proofs.YtahkpgffoiaeiaaGreatDoor
