/- Whether a chart goes together, asked by the program. -/
import Derived.Test.YtccklgopcjilcaaGreatDoorJWF40
import Derived.ChangeKeysEq
import Derived.Deep.RegionHeld3
namespace Go.Proofs.YtccklgopcjilcaaGreatDoor
open Go.RowKit Go.Deep
set_option linter.unusedVariables false
set_option linter.unusedSimpArgs false
namespace Kc
open Ex (inR evalCode evalVal vFault hid)
open St (StepD)
open Ch (RunD)
open Pf
theorem wpList_load_wanted {P : Program} {ops : Array Oper} {rest : List Oper} {op : Oper} {a : Act} {w : World} {Q : Exit → Act → World → Prop} (hw : Region.wanted op (yielded ops a.tmps) = true) (ty : TypeId) (x : Operand) (ho : op.op = .load ty x)
    (b o : Nat) (hx : a.eval x = .pointer (some ⟨b, o, none⟩)) (cs : List Value) (d : TypeDesc) (hc : w.rangeAt b o cs) (hu : P.underlying ty = some d) (hd : d.isRow = true) (hi : (P.info? ty).map (·.size) = some cs.length)
    (h : wpList P ops Q rest (a.put op.dst (.agg cs.toArray)) w) : wpList P ops Q (op :: rest) a w := by
  rw [wpList, if_pos hw]
  exact .inl (wp_load_mid ty x ho b o hx cs d hc hu hd hi h)
/-! ### tables of 24 numbers -/
def tab (f : Nat → Int) : List Value := (List.range 24).map fun i => .int .i64 (f i)
theorem tab_get {f : Nat → Int} {i : Nat} (h : i < 24) : (tab f)[i]? = some (.int .i64 (f i)) := by
  unfold tab
  rw [List.getElem?_map, List.getElem?_range h]
  rfl
theorem tab_len (f : Nat → Int) : (tab f).length = 24 := by simp [tab]
def zero24 (f : Nat → Int) : Bool := (List.range 24).all fun i => f i == 0
theorem und64 : Tryz.prog.underlying 2 = some (.int .i64) := by kernel_rfl
theorem undTab : Tryz.prog.underlying 127 = some (.array 24 2) := by kernel_rfl
theorem infoTab {f : Nat → Int} : (Tryz.prog.info? 127).map (·.size) = some (tab f).length := by rw [tab_len]; kernel_rfl
theorem guardTab : Tryz.prog.eqGuardType Tryz.prog.depth 127 = false := by kernel_rfl
theorem run_part (cs : Array Value) (i : Nat) (v : Value) (w : World) (h : cs[i]? = some v) : (part 2 cs i).run Tryz.prog w = .ok v w := by
  have e : (isAgg 2).run Tryz.prog w = .ok false w := by kernel_rfl
  simp only [part, Sem.run_bind, e, Result.andThen_ok, Bool.false_eq_true, if_false, h, Sem.run_pure]
theorem run_items (d : Nat) (f : Nat → Int) (ys : Array Value) (hy : ∀ i, i < 24 → ys[i]? = some (.int .i64 0)) (w : World) : ∀ (is : List Nat), (∀ i ∈ is, i < 24) → (Op.eqItems (d + 1) 2 1 (tab f).toArray ys is).run Tryz.prog w = .ok (is.all fun i => f i == 0) w
  | [], _ => by simp [Op.eqItems]
  | i :: is, h => by
    have h1 : i < 24 := h i (by simp)
    have ih := run_items d f ys hy w is (fun x hx => h x (List.mem_cons_of_mem _ hx))
    have p1 := run_part (tab f).toArray i _ w (by simpa using tab_get (f := f) h1)
    have p2 := run_part ys i _ w (hy i h1)
    simp only [Op.eqItems, Sem.run_bind, Nat.mul_one, p1, p2, Result.andThen_ok, run_equalIn_int w d 2 .i64 .i64 (f i) 0 und64]
    cases hx : (f i == 0)
    · simp [hx]
    · simp [hx, ih]
theorem info64 : ∃ i, Tryz.prog.info? 2 = some i := by
  obtain ⟨i, h, _⟩ := info_parts infoI64
  exact ⟨i, h⟩
theorem run_tab (f : Nat → Int) (ys : Array Value) (hy : ∀ i, i < 24 → ys[i]? = some (.int .i64 0)) (w : World) : (binOp .eql 127 (.agg (tab f).toArray) (.agg ys)).run Tryz.prog w = .ok (.bool (zero24 f)) w := by
  obtain ⟨i, hi⟩ := info64
  have e := run_items 9998 f ys hy w (List.range 24) (fun x hx => List.mem_range.1 hx)
  rw [run_eql_struct, run_equalIn_array w 9999 _ _ undTab hi, show Tryz.prog.cellsOf 2 = 1 from by kernel_rfl, e]
  rfl
theorem zeros24 : ∀ i, i < 24 → (#[.int .i64 0, .int .i64 0, .int .i64 0, .int .i64 0, .int .i64 0, .int .i64 0, .int .i64 0, .int .i64 0, .int .i64 0, .int .i64 0, .int .i64 0, .int .i64 0, .int .i64 0, .int .i64 0, .int .i64 0, .int .i64 0, .int .i64 0, .int .i64 0, .int .i64 0, .int .i64 0, .int .i64 0, .int .i64 0, .int .i64 0, .int .i64 0] : Array Value)[i]? = some (.int .i64 0) := fun i hi => by
  have : i = 0 ∨ i = 1 ∨ i = 2 ∨ i = 3 ∨ i = 4 ∨ i = 5 ∨ i = 6 ∨ i = 7 ∨ i = 8 ∨ i = 9 ∨ i = 10 ∨ i = 11 ∨ i = 12 ∨ i = 13 ∨ i = 14 ∨ i = 15 ∨ i = 16 ∨ i = 17 ∨ i = 18 ∨ i = 19 ∨ i = 20 ∨ i = 21 ∨ i = 22 ∨ i = 23 := by omega
  rcases this with rfl | rfl | rfl | rfl | rfl | rfl | rfl | rfl | rfl | rfl | rfl | rfl | rfl | rfl | rfl | rfl | rfl | rfl | rfl | rfl | rfl | rfl | rfl | rfl <;> rfl
theorem KAt.tabA {wg w : World} {R : Nat} {u : Value} {ss : List StepD} {s : CS} (h : KAt wg w R u ss s) : w.rangeAt R 7 (tab s.acts) := fun j v hv => by
  have hj : j < 24 := by have := (List.getElem?_eq_some_iff.1 hv).1; rwa [tab_len] at this
  rw [tab_get hj] at hv
  cases hv
  exact h.cA hj
theorem KAt.tabD {wg w : World} {R : Nat} {u : Value} {ss : List StepD} {s : CS} (h : KAt wg w R u ss s) : w.rangeAt R 31 (tab s.dues) := fun j v hv => by
  have hj : j < 24 := by have := (List.getElem?_eq_some_iff.1 hv).1; rwa [tab_len] at this
  rw [tab_get hj] at hv
  cases hv
  exact h.cD hj
def noBad (ss : List StepD) (s : CS) (n : Nat) : Bool := (List.range n).all fun k => !badP ss s.acts s.dues k
theorem noBad_succ (ss : List StepD) (s : CS) (n : Nat) : noBad ss s (n + 1) = (noBad ss s n && !badP ss s.acts s.dues n) := by
  unfold noBad
  rw [List.range_succ, List.all_append]
  simp
theorem noBad_no {ss : List StepD} {s : CS} {n k : Nat} (hk : k < n) (h : badP ss s.acts s.dues k = true) : noBad ss s n = false := by
  unfold noBad
  rw [List.all_eq_false]
  exact ⟨k, List.mem_range.2 hk, by simp [h]⟩
def fitsS (ss : List StepD) (s : CS) : Bool := if s.status ≠ 1 then zero24 s.acts && zero24 s.dues else noBad ss s ss.length && (s.acts 0 == 1)
set_option maxRecDepth 100000 in
set_option maxHeartbeats 16000000 in
theorem goesTogether (wg w : World) (R : Nat) (u : Value) (ss : List StepD) (s : CS) (hp : pFault ss = 0) (h : KAt wg w R u ss s) :
    Calls Tryz.prog 124 #[.pointer (some ⟨R, 0, none⟩)] w fun e w' => e = .returned (.bool (fitsS ss s)) ∧ Below w.heap.size w w' := by
  have hl : ss.length ≤ 24 := by have := (of_p hp).1; omega
  have c1 := h.c1
  by_cases hst : s.status = 1
  · have HV : Hid (fitsS ss s = (noBad ss s ss.length && (s.acts 0 == 1))) := hid (by unfold fitsS; rw [if_neg (by simp [hst])])
    have b1 : (s.status != 1) = false := by simp [hst]
    have HK := hid h
    have HP := hid hp
    have hu := h.c0
    obtain ⟨gu, cu, eu, hgu, _⟩ := h.steps
    rw [eu] at hu
    clear h hp hst
    generalize fitsS ss s = res at *
    go_enter Tryz.func124, Tryz.ntmps124
    go_wp2
    clear hu c1
    go_loopw [4, 29] (fun _ x wr => ∃ j : Nat, x = .int .i64 j ∧ j ≤ ss.length ∧ Hid (noBad ss s j = true) ∧ Hid (Below w.heap.size w wr)) (fun _ x _ => ss.length - (intOf x).toNat)
    case atStart => exact ⟨0, rfl, Nat.zero_le _, hid rfl, hid (Below.refl _ _)⟩
    case round =>
      obtain ⟨j, rfl, hjl, HN, HB⟩ := hrel
      by_cases hlt : j < ss.length
      · have hK := HK.out.below HB.out
        obtain ⟨g', cap', e', hg, hc⟩ := hK.steps
        rw [eu] at e'
        cases e'
        obtain ⟨kv, vc, ve, d0, d1, d2, d3, d4, d5, d6, d7, d8, hpc⟩ := hc j hlt
        obtain ⟨ak, ck, rfl⟩ := hpc.kids.slice
        obtain ⟨ac, cc, rfl⟩ := hpc.cond.slice
        obtain ⟨ae, ce, rfl⟩ := hpc.expr.slice
        clear hc
        obtain ⟨w0, e0⟩ : ∃ w0, w0 = wr.alloc (.cells #[.int .i64 (j : Int), .int .i64 ((path ss (j + 1)).length : Int), .slice ak (kidsL ss j).length ck, .int .i64 ss[j].kind, .int .i64 ss[j].parent, .string ss[j].name, .int .i64 ss[j].arg, .slice ac ss[j].cond.length cc, .slice ae ss[j].expr.length ce] 231) := ⟨_, rfl⟩
        have hxA : Below wr.heap.size wr w0 := by rw [e0]; exact (Below.refl _ wr).alloc (Nat.le_refl _) _
        have hB0 := HB.out.trans (hxA.mono HB.out.size)
        have hk0 : PBlk w0 wr.heap.size #[.int .i64 (j : Int), .int .i64 ((path ss (j + 1)).length : Int), .slice ak (kidsL ss j).length ck, .int .i64 ss[j].kind, .int .i64 ss[j].parent, .string ss[j].name, .int .i64 ss[j].arg, .slice ac ss[j].cond.length cc, .slice ae ss[j].expr.length ce] := by rw [e0]; exact Ch.new_blk _ _
        have HOn := hid (isOn wg w0 R u ss s j (by omega) (hK.below hxA))
        have HRK := hid (hasRightKids wg w0 R u ss s j hlt hl _ _ _ ((path ss (j + 1)).length : Int) (hpc.below hxA) (hK.below hxA))
        have HRD : Hid (∀ wx, Below w0.heap.size w0 wx → Calls Tryz.prog 167 #[.pointer (some ⟨R, 0, none⟩), .agg #[.int .i64 (j : Int), .int .i64 ((path ss (j + 1)).length : Int), .slice ak (kidsL ss j).length ck, .int .i64 ss[j].kind, .int .i64 ss[j].parent, .string ss[j].name, .int .i64 ss[j].arg, .slice ac ss[j].cond.length cc, .slice ae ss[j].expr.length ce]] wx fun e w' => e = .returned (.bool (rightDue ss s.acts s.dues j)) ∧ Below wx.heap.size wx w') := hid (fun wx hb => hasRightDue wg wx R u ss s j hlt HP.out _ _ _ ((path ss (j + 1)).length : Int) ((hpc.below hxA).below hb) ((hK.below hxA).below hb))
        have HBad := hid (fun (hh : badP ss s.acts s.dues j = true) => noBad_no (ss := ss) (s := s) hlt hh)
        have HNx := hid (noBad_succ ss s j)
        have HE : Hid (badP ss s.acts s.dues j = ((ss[j].kind == 7 && s.acts j == 1) || !rightKids ss s.acts j || !rightDue ss s.acts s.dues j)) := hid (by unfold badP; rw [PJ_eq hlt])
        have q1 : (j : Int) < (ss.length : Int) := by omega
        have HK0 := hid hk0
        have HB0 := hid hB0
        have HE0 := hid e0
        have l0 : wr.heap.size < w0.heap.size := Ch.blk_lt hk0
        clear hpc hxA hK hk0 hB0 e0
        generalize badP ss s.acts s.dues j = bp at *
        generalize rightKids ss s.acts j = rk at *
        generalize rightDue ss s.acts s.dues j = rd at *
        by_cases h7 : ss[j].kind = 7
        · have b7 : (ss[j].kind == 7) = true := by simp [h7]
          rw [b7] at HE
          clear h7
          go_wp2_with fail
          rw [← HE0.out]
          refine HOn.out.mono ?_
          rintro e w1 ⟨rfl, hw1⟩
          replace hw1 := hw1.symm
          subst hw1
          have m0 : w0.cell? ⟨wr.heap.size, 0, none⟩ = _ := HK0.out.cell 0
          have m1 : w0.cell? ⟨wr.heap.size, 1, none⟩ = _ := HK0.out.cell 1
          have m2 : w0.cell? ⟨wr.heap.size, 2, none⟩ = _ := HK0.out.cell 2
          have m3 : w0.cell? ⟨wr.heap.size, 3, none⟩ = _ := HK0.out.cell 3
          have m4 : w0.cell? ⟨wr.heap.size, 4, none⟩ = _ := HK0.out.cell 4
          have m5 : w0.cell? ⟨wr.heap.size, 5, none⟩ = _ := HK0.out.cell 5
          have m6 : w0.cell? ⟨wr.heap.size, 6, none⟩ = _ := HK0.out.cell 6
          have m7 : w0.cell? ⟨wr.heap.size, 7, none⟩ = _ := HK0.out.cell 7
          have m8 : w0.cell? ⟨wr.heap.size, 8, none⟩ = _ := HK0.out.cell 8
          by_cases ha : s.acts j = 1
          · have ba : (s.acts j == 1) = true := by simp [ha]
            rw [ba] at HE ⊢
            have HX : Hid (res = false) := hid (by rw [HV.out, HBad.out (by rw [HE.out]; simp)]; rfl)
            go_wp2
            go_ret
            exact ⟨by rw [HX.out]; rfl, HB0.out⟩
          · have ba : (s.acts j == 1) = false := by simp [ha]
            rw [ba] at HE ⊢
            clear ha ba
            go_wp2_with fail
            refine HRK.out.mono ?_
            rintro e w1 ⟨rfl, hb1⟩
            have hB1 := HB0.out.trans (hb1.mono HB0.out.size)
            have HK1 := hid (HK0.out.below hb1)
            have m0 : w1.cell? ⟨wr.heap.size, 0, none⟩ = _ := HK1.out.cell 0
            have m1 : w1.cell? ⟨wr.heap.size, 1, none⟩ = _ := HK1.out.cell 1
            have m2 : w1.cell? ⟨wr.heap.size, 2, none⟩ = _ := HK1.out.cell 2
            have m3 : w1.cell? ⟨wr.heap.size, 3, none⟩ = _ := HK1.out.cell 3
            have m4 : w1.cell? ⟨wr.heap.size, 4, none⟩ = _ := HK1.out.cell 4
            have m5 : w1.cell? ⟨wr.heap.size, 5, none⟩ = _ := HK1.out.cell 5
            have m6 : w1.cell? ⟨wr.heap.size, 6, none⟩ = _ := HK1.out.cell 6
            have m7 : w1.cell? ⟨wr.heap.size, 7, none⟩ = _ := HK1.out.cell 7
            have m8 : w1.cell? ⟨wr.heap.size, 8, none⟩ = _ := HK1.out.cell 8
            clear HRK HK0 HB0 HE0 HK1
            cases rk
            · have HX : Hid (res = false) := hid (by rw [HV.out, HBad.out (by rw [HE.out]; simp)]; rfl)
              clear HV HBad HNx HE HRD HOn
              go_wp2
              go_ret
              exact ⟨by rw [HX.out]; rfl, hB1⟩
            · go_wp2_with fail
              refine (HRD.out _ hb1).mono ?_
              rintro e w2 ⟨rfl, hb2⟩
              have hB2 := hB1.trans (hb2.mono hB1.size)
              clear hb1 hb2 hB1 m0 m1 m2 m3 m4 m5 m6 m7 m8
              cases rd
              · have HX : Hid (res = false) := hid (by rw [HV.out, HBad.out (by rw [HE.out]; simp)]; rfl)
                clear HV HBad HNx HE HRD HOn
                go_wp2
                go_ret
                exact ⟨by rw [HX.out]; rfl, hB2⟩
              · have HX : Hid (noBad ss s (j + 1) = true) := hid (by rw [HNx.out, HN.out, HE.out]; simp)
                clear HV HBad HNx HE HRD HOn
                go_wp2
                exact ⟨⟨j + 1, by simp, by omega, HX, hid hB2⟩, by simp [intOf]; omega⟩
        · have b7 : (ss[j].kind == 7) = false := by simp [h7]
          rw [b7] at HE
          clear h7
          go_wp2_with fail
          rw [← HE0.out]
          refine HRK.out.mono ?_
          rintro e w1 ⟨rfl, hb1⟩
          have hB1 := HB0.out.trans (hb1.mono HB0.out.size)
          have HK1 := hid (HK0.out.below hb1)
          have m0 : w1.cell? ⟨wr.heap.size, 0, none⟩ = _ := HK1.out.cell 0
          have m1 : w1.cell? ⟨wr.heap.size, 1, none⟩ = _ := HK1.out.cell 1
          have m2 : w1.cell? ⟨wr.heap.size, 2, none⟩ = _ := HK1.out.cell 2
          have m3 : w1.cell? ⟨wr.heap.size, 3, none⟩ = _ := HK1.out.cell 3
          have m4 : w1.cell? ⟨wr.heap.size, 4, none⟩ = _ := HK1.out.cell 4
          have m5 : w1.cell? ⟨wr.heap.size, 5, none⟩ = _ := HK1.out.cell 5
          have m6 : w1.cell? ⟨wr.heap.size, 6, none⟩ = _ := HK1.out.cell 6
          have m7 : w1.cell? ⟨wr.heap.size, 7, none⟩ = _ := HK1.out.cell 7
          have m8 : w1.cell? ⟨wr.heap.size, 8, none⟩ = _ := HK1.out.cell 8
          clear HRK HK0 HB0 HE0 HK1
          cases rk
          · have HX : Hid (res = false) := hid (by rw [HV.out, HBad.out (by rw [HE.out]; simp)]; rfl)
            clear HV HBad HNx HE HRD HOn
            go_wp2
            go_ret
            exact ⟨by rw [HX.out]; rfl, hB1⟩
          · go_wp2_with fail
            refine (HRD.out _ hb1).mono ?_
            rintro e w2 ⟨rfl, hb2⟩
            have hB2 := hB1.trans (hb2.mono hB1.size)
            clear hb1 hb2 hB1 m0 m1 m2 m3 m4 m5 m6 m7 m8
            cases rd
            · have HX : Hid (res = false) := hid (by rw [HV.out, HBad.out (by rw [HE.out]; simp)]; rfl)
              clear HV HBad HNx HE HRD HOn
              go_wp2
              go_ret
              exact ⟨by rw [HX.out]; rfl, hB2⟩
            · have HX : Hid (noBad ss s (j + 1) = true) := hid (by rw [HNx.out, HN.out, HE.out]; simp)
              clear HV HBad HNx HE HRD HOn
              go_wp2
              exact ⟨⟨j + 1, by simp, by omega, HX, hid hB2⟩, by simp [intOf]; omega⟩
      · have q1 : ¬ (j : Int) < (ss.length : Int) := by omega
        have hje : j = ss.length := by omega
        have HX : Hid (res = (s.acts 0 == 1)) := hid (by rw [HV.out, ← hje, HN.out]; rfl)
        have HOn := hid (isOn wg wr R u ss s 0 (by omega) (HK.out.below HB.out))
        clear HV HN hje
        go_wp2_with (go_at_call 165; refine HOn.out.mono ?_; rintro e w3 ⟨rfl, hw3⟩; replace hw3 := hw3.symm; subst hw3)
        go_ret
        exact ⟨by rw [HX.out]; rfl, HB.out⟩
  · have HV : Hid (fitsS ss s = (zero24 s.acts && zero24 s.dues)) := hid (by unfold fitsS; rw [if_pos hst])
    have b1 : (s.status != 1) = true := bne_iff_ne.2 hst
    have tA := h.tabA
    have tD := h.tabD
    have rA : ∀ w, (binOp .eql 127 (.agg (tab s.acts).toArray) (.agg #[.int .i64 0, .int .i64 0, .int .i64 0, .int .i64 0, .int .i64 0, .int .i64 0, .int .i64 0, .int .i64 0, .int .i64 0, .int .i64 0, .int .i64 0, .int .i64 0, .int .i64 0, .int .i64 0, .int .i64 0, .int .i64 0, .int .i64 0, .int .i64 0, .int .i64 0, .int .i64 0, .int .i64 0, .int .i64 0, .int .i64 0, .int .i64 0])).run Tryz.prog w = .ok (.bool (zero24 s.acts)) w := fun w => run_tab _ _ zeros24 w
    have rD : ∀ w, (binOp .eql 127 (.agg (tab s.dues).toArray) (.agg #[.int .i64 0, .int .i64 0, .int .i64 0, .int .i64 0, .int .i64 0, .int .i64 0, .int .i64 0, .int .i64 0, .int .i64 0, .int .i64 0, .int .i64 0, .int .i64 0, .int .i64 0, .int .i64 0, .int .i64 0, .int .i64 0, .int .i64 0, .int .i64 0, .int .i64 0, .int .i64 0, .int .i64 0, .int .i64 0, .int .i64 0, .int .i64 0])).run Tryz.prog w = .ok (.bool (zero24 s.dues)) w := fun w => run_tab _ _ zeros24 w
    have hgd := guardTab
    clear h hp hst
    generalize fitsS ss s = res at *
    generalize zero24 s.acts = za at *
    generalize zero24 s.dues = zd at *
    cases za
    · have HX : Hid (res = false) := hid (by rw [HV.out]; rfl)
      clear HV
      go_enter Tryz.func124, Tryz.ntmps124
      go_wp2_with (refine wpList_load_mid rfl 127 _ rfl R 7 rfl (tab s.acts) _ tA undTab rfl infoTab ?_)
      go_ret
      exact ⟨by rw [HX.out]; rfl, Below.refl _ _⟩
    · have HX : Hid (res = zd) := hid (by rw [HV.out]; rfl)
      clear HV
      go_enter Tryz.func124, Tryz.ntmps124
      go_wp2_with (first | refine wpList_load_mid rfl 127 _ rfl R 7 rfl (tab s.acts) _ tA undTab rfl infoTab ?_ | refine wpList_load_wanted (by rfl) 127 _ rfl R 31 rfl (tab s.dues) _ tD undTab rfl infoTab ?_)
      go_ret
      exact ⟨by rw [HX.out]; rfl, Below.refl _ _⟩
end Kc
end Go.Proofs.YtccklgopcjilcaaGreatDoor
