/- Whatever code of bytes is handed in, the law FnEvals answers true: where an expression and variables that are drawn from it have a code other than OK and ErrValue, the specification has the same; else what the expression comes to is within its bounds, is the specification's, and is the same with the variables changed that it has not; the bytes handed in read afterwards as before. No condition. -/
import Derived.Test.YtpegbiggmjepgaaRows
import Derived.Test.YtpegbiggmjepgaaEvL
import Derived.Test.YtpegbiggmjepgaaImX
import Derived.Test.YtpegbiggmjepgaaDrX
import Derived.Test.YtpegbiggmjepgaaDrO
import Derived.Test.YtpegbiggmjepgaaExJ
import Derived.ShutString
import Derived.ChangeOld
import Derived.Deep.CutRange
import Derived.Deep.RegionHeld3
namespace Go.Proofs.Ytpegbiggmjepgaa
open Go.ChangeShapes Go.WideShapes Go.ChangeAt Go.RowKit
set_option linter.unusedVariables false
namespace EvW
open Ex
open Nd (NodeD)
theorem fldC (c x : Int) (w : World) : Sem.run Try.prog (Instr.field 29 (.agg #[.int .i64 c, .int .i64 x]) 0) w = .ok (.int .i64 c) w := by kernel_rfl
theorem infoI64 : (Try.prog.info? 2).map (fun i => (i.zero, i.size, i.bytes)) = some (some (.int .i64 0), 1, 8) := by kernel_rfl
set_option maxRecDepth 100000 in
set_option maxHeartbeats 16000000 in
theorem walk (a : Option Addr) (len cap : Nat) (w : World) (hl : len ≤ maxLen) (hnil : a = none → len = 0 ∧ cap = 0) (hc : Drw.CodeAt w.heap.size w a len) :
    Calls Try.prog 3 #[.slice a len cap] w fun e w' => e = .returned (.bool true) ∧ Below w.heap.size w w' := by
  have HC := hid hc
  have HN := hid hnil
  clear hc hnil
  by_cases q0 : (1048576 : Int) < (len : Int)
  · go_enter Try.func3, Try.ntmps3
    go_wp2_with (go_at_call 4; refine (Drw.big a len cap _).mono ?_; rintro e w9 ⟨rfl, hw9⟩; replace hw9 := hw9.symm; subst hw9)
    go_ret
    exact ⟨rfl, Below.refl _ _⟩
  have hln : len ≤ 1048576 := by omega
  go_enter Try.func3, Try.ntmps3
  go_wp2_with (go_at_call 4; refine (Drw.big a len cap _).mono ?_; rintro e w9 ⟨rfl, hw9⟩; replace hw9 := hw9.symm; subst hw9)
  refine (DrE.drawEval len cap a _ hln HN.out HC.out).mono ?_
  rintro e w1 ⟨ns, xs, u, v, hns, hxs, rfl, hA, hV, hb1⟩
  obtain ⟨au, cu, rfl⟩ := hA.slice
  obtain ⟨av, cv, rfl⟩ := hV.slice
  have HA := hid hA
  have HV := hid hV
  have HB1 := hid hb1
  clear hA hV hb1 HC HN
  have HIE := hid (fun (os : List Int) (vv : Value) (wx : World) (hos : os.length ≤ 4) (hb : Below w1.heap.size w1 wx) (hn : Nu.At wx 0 vv os) => implEvalExpr 0 0 ns os _ vv wx (by omega) (by omega) (HA.out.below hb) hn)
  have HSE := hid (fun (wx : World) (hb : Below w1.heap.size w1 wx) => specEvalExpr 0 0 ns xs _ _ wx (by omega) (by omega) (HA.out.below hb) (HV.out.below hb))
  have HIT := hid (fun (wx : World) (hb : Below w1.heap.size w1 wx) => implTypeOf 0 ns _ wx (by omega) (HA.out.below hb))
  have HST := hid (fun (wx : World) (hb : Below w1.heap.size w1 wx) => specTypeOf 0 ns _ wx (by omega) (HA.out.below hb))
  have HVI := hid (fun (wx : World) (hb : Below w1.heap.size w1 wx) => implVarsIn 0 ns _ wx (by omega) (HA.out.below hb))
  have HVF := hid (fun (wx : World) (hb : Below w1.heap.size w1 wx) => implVarsB 0 xs _ wx (by omega) (HV.out.below hb))
  have HIE1 := hid (HIE.out xs _ w1 hxs (Below.refl _ _) HV.out)
  have HFI := hid (fun (h : evalCode ns xs = 0 ∨ evalCode ns xs = 8) => (⟨(ev_fine h).1, (ev_fine h).2, of_type (ev_fine h).1⟩ : typeCode ns = 0 ∧ vFault xs = 0 ∧ eFault ns = 0))
  have HAG := hid (fun (hv : vFault xs = 0) => eval_agree hv (oth_fault hv) (oth_agree ns xs))
  have HSM := hid (eval_small ns xs)
  have HBO := hid (fun (h : typeVal ns = 2) => eval_bool (vars := xs) h)
  generalize hrc : evalCode ns xs = rc at *
  generalize hrv : evalVal ns xs = rv at *
  clear hrc hrv
  go_wp2_with fail
  refine HIE1.out.mono ?_
  rintro e w2 ⟨rfl, hb2⟩
  have hx3 : Below w2.heap.size w2 (w2.alloc (.cells #[.int .i64 rc, .int .i64 rv] 29)) := (Below.refl _ w2).alloc (Nat.le_refl _) _
  have HB3 : Hid (Below w1.heap.size w1 (w2.alloc (.cells #[.int .i64 rc, .int .i64 rv] 29))) := hid (hb2.alloc hb2.size _)
  have c0 : (w2.alloc (.cells #[.int .i64 rc, .int .i64 rv] 29)).cell? ⟨w2.heap.size, 0, none⟩ = some (.int .i64 rc) := by go_simp
  have c1 : (w2.alloc (.cells #[.int .i64 rc, .int .i64 rv] 29)).cell? ⟨w2.heap.size, 1, none⟩ = some (.int .i64 rv) := by go_simp
  have hz3 : w2.heap.size < (w2.alloc (.cells #[.int .i64 rc, .int .i64 rv] 29)).heap.size := by simp
  clear hb2 hx3 HIE1
  go_wp2_with fail
  generalize w2.alloc (.cells #[.int .i64 rc, .int .i64 rv] 29) = w3 at *
  have HIT3 := hid (HIT.out w3 HB3.out)
  generalize htc : typeCode ns = tc at *
  generalize htv : typeVal ns = tv at *
  clear htc htv
  refine HIT3.out.mono ?_
  rintro e w4 ⟨rfl, hb4⟩
  have d0 := kept_cell hb4 hz3 c0
  have d1 := kept_cell hb4 hz3 c1
  have hz4 : w2.heap.size < w4.heap.size := Nat.lt_of_lt_of_le hz3 hb4.size
  have HB4 := hid (HB3.out.trans (hb4.mono HB3.out.size))
  have hx5 : Below w4.heap.size w4 (w4.alloc (.cells #[.int .i64 tc, .int .i64 tv] 29)) := (Below.refl _ w4).alloc (Nat.le_refl _) _
  have HB5 : Hid (Below w1.heap.size w1 (w4.alloc (.cells #[.int .i64 tc, .int .i64 tv] 29))) := hid (HB4.out.alloc HB4.out.size _)
  have e0 := kept_cell hx5 hz4 d0
  have e1 := kept_cell hx5 hz4 d1
  have f0 : (w4.alloc (.cells #[.int .i64 tc, .int .i64 tv] 29)).cell? ⟨w4.heap.size, 0, none⟩ = some (.int .i64 tc) := by go_simp
  have f1 : (w4.alloc (.cells #[.int .i64 tc, .int .i64 tv] 29)).cell? ⟨w4.heap.size, 1, none⟩ = some (.int .i64 tv) := by go_simp
  have hz5 : w4.heap.size < (w4.alloc (.cells #[.int .i64 tc, .int .i64 tv] 29)).heap.size := by simp
  clear c0 c1 hb4 HB3 HB4 d0 d1 HIT3 hx5 HIT
  by_cases hgo : rc = 0 ∨ rc = 8
  · obtain ⟨htc0, hvf0, hef0⟩ := HFI.out hgo
    subst htc0
    have hag := HAG.out hvf0
    have hgo' := hgo
    obtain ⟨hxl, -⟩ := of_v hvf0
    have HXL := hid hxl
    obtain ⟨gv, ov, rfl, hgv, -⟩ := HV.out.at (i := 0) (by omega)
    clear hxl
    have HVI5 := hid (HVI.out _ HB5.out)
    have HVL := hid (fun (v : Nat) (hv : v < 4) => mem_vars (ns := ns) 4 v hv)
    have HVN := varList_len ns
    rw [hef0] at HVI5
    rw [← varList_ok hef0] at HVL
    generalize hvl : varList ns = vl at *
    clear hvl HVI
    go_upto_region 6 with fail
    generalize w4.alloc (.cells #[.int .i64 0, .int .i64 tv] 29) = w5 at *
    go_cut [31] from 24 to 30 (fun r wx => r = .bool false ∧ wx = w5)
    case first =>
      rcases hgo with rfl | rfl
      · go_wp2_with fail
        go_meet
        exact ⟨rfl, rfl⟩
      · go_wp2_with fail
        go_meet
        exact ⟨rfl, rfl⟩
    case rest =>
      obtain ⟨rfl, hwc⟩ := hcut
      replace hwc := hwc.symm
      subst hwc
      clear hgo hgo'
      go_wp2_with fail
      refine HVI5.out.mono ?_
      rintro e w6 ⟨⟨u6, rfl, ho6⟩, hb6⟩
      obtain ⟨y6, z6, rfl⟩ := Ints.owns_slice ho6
      have HU6 := hid ((nu_owns ho6).mono (Nat.zero_le _))
      have hz2 : w2.heap.size < w6.heap.size := Nat.lt_of_lt_of_le (Nat.lt_trans hz4 hz5) hb6.size
      have hz46 : w4.heap.size < w6.heap.size := Nat.lt_of_lt_of_le hz5 hb6.size
      have g0 := kept_cell hb6 (Nat.lt_trans hz4 hz5) e0
      have g1 := kept_cell hb6 (Nat.lt_trans hz4 hz5) e1
      have g2 := kept_cell hb6 hz5 f0
      have g3 := kept_cell hb6 hz5 f1
      have HB6 := hid (HB5.out.trans (hb6.mono HB5.out.size))
      have hx7 : Below w6.heap.size w6 (w6.alloc (.cells #[.int .i64 0, .slice y6 vl.length z6] 33)) := (Below.refl _ w6).alloc (Nat.le_refl _) _
      have h0 := kept_cell hx7 hz2 g0
      have h1 := kept_cell hx7 hz2 g1
      have h2 := kept_cell hx7 hz46 g2
      have h3 := kept_cell hx7 hz46 g3
      have h4 : (w6.alloc (.cells #[.int .i64 0, .slice y6 vl.length z6] 33)).cell? ⟨w6.heap.size, 0, none⟩ = some (.int .i64 0) := by go_simp
      have h5 : (w6.alloc (.cells #[.int .i64 0, .slice y6 vl.length z6] 33)).cell? ⟨w6.heap.size, 1, none⟩ = some (.slice y6 vl.length z6) := by go_simp
      have hz7 : (w6.alloc (.cells #[.int .i64 0, .slice y6 vl.length z6] 33)).heap.size = w6.heap.size + 1 := by simp
      have HZ7 := hid hz7
      clear hz7
      have HU7 := hid (HU6.out.below hx7)
      have HB7 := hid (HB6.out.trans (hx7.mono HB6.out.size))
      clear ho6 hb6 g0 g1 g2 g3 e0 e1 f0 f1 hx7 HU6 HB6 HVI5
      go_upto_region 9 with fail
      generalize w6.alloc (.cells #[.int .i64 0, .slice y6 vl.length z6] 33) = w7 at *
      have HO : Hid ((w7.alloc (.cells #[] 2)).ownsRow w7.heap.size 2 1 (.slice (some ⟨w7.heap.size, 0, none⟩) 0 0) 0 []) := hid (World.ownsRow_made w7 #[] 0 (Nat.le_refl _) (by decide) (by simp))
      have HBa : Hid (Below w7.heap.size w7 (w7.alloc (.cells #[] 2))) := hid ((Below.refl _ w7).alloc (Nat.le_refl _) _)
      have hzc : ∀ (j : Nat) u, (Ints.vals xs)[j]? = some u → (w7.alloc (.cells #[] 2)).cell? ((⟨gv, ov, none⟩ : Addr).add j) = some u := by
        intro j u hj
        have hjl : j < xs.length := by
          have := (List.getElem?_eq_some_iff.1 hj).1
          simpa [Ints.vals] using this
        have hju : u = .int .i64 xs[j] := by
          have : (Ints.vals xs)[j]? = some (.int .i64 xs[j]) := by simp [Ints.vals, List.getElem?_eq_getElem hjl]
          rw [this] at hj
          exact (Option.some.inj hj).symm
        rw [Go.WideShapes.add_plain]
        obtain ⟨g', o', e', hg', hcc⟩ := (HV.out.below (HB7.out.trans (HBa.out.mono HB7.out.size))).at hjl
        cases e'
        rw [hju]
        exact hcc
      obtain ⟨j0, hj, hy0, hy1, hy2⟩ := info_parts infoI64
      go_wp2_with (at_builtin; go_must (refine wpList_append_own _ rfl _ _ 25 rfl w7.heap.size 2 j0 (.int .i64 0) 1 8 Try.underlying25 hj hy0 hy1 hy2 rfl (by decide) _ _ _ rfl HO.out ⟨gv, ov, none⟩ xs.length cv (Ints.vals xs) rfl (by simp [Ints.vals]) hzc (by simp [Value.oneCell', Ints.vals]) (by unfold maxLen; omega) (by omega) (by simp) ?_); intro v9 w9 hown9 hg9 _; rw [Nat.zero_add, List.nil_append] at hown9; obtain ⟨g9, c9, rfl⟩ := Ints.owns_some hown9 (by have := HXL.out; omega))
      have HB9 : Hid (Below w7.heap.size w7 w9) := hid (HBa.out.grown hg9 (by simp) (fun b e => by have := DrE.own_lt' HO.out e; omega))
      have HO9 : Hid (w9.ownsRow w7.heap.size 2 1 (.slice (some ⟨g9, 0, none⟩) xs.length c9) xs.length (Ints.vals (oth ns xs 0))) := hid (by rw [oth_zero HXL.out]; exact hown9)
      clear hown9 hg9 HO HBa hzc
      go_wp2_with fail
      go_loopw [9] (fun i wr => ∃ (k : Nat), i = .int .i64 k ∧ k ≤ 4 ∧ Hid (wr.ownsRow w7.heap.size 2 1 (.slice (some ⟨g9, 0, none⟩) xs.length c9) xs.length (Ints.vals (oth ns xs k))) ∧ Hid (Below w7.heap.size w7 wr)) (fun i _ => 4 - (intOf i).toNat)
      case atStart => exact ⟨0, rfl, by omega, HO9, HB9⟩
      case round =>
        obtain ⟨k, rfl, hk, HOR, HBR⟩ := hrel
        have hz7 := HZ7.out
        have r5 := kept_cell HBR.out (b := w6.heap.size) (o := 1) (by omega) h5
        clear hz7
        have hr7 := HBR.out.size
        by_cases hlt : k < 4
        · have q1 : (k : Int) < 4 := by omega
          have q2 : (k : Int) < (xs.length : Int) := by have := HXL.out; omega
          have hhv := HVL.out k hlt
          go_wp2_with fail
          refine (DrE.lwHas 0 vl _ (k : Int) _ (by omega) (HU7.out.below HBR.out)).mono ?_
          rintro e wq ⟨rfl, hwq⟩
          replace hwq := hwq.symm
          subst hwq
          rw [hhv]
          cases hv : hasVar ns (k : Int)
          · obtain ⟨⟨ux, hcx⟩, hfx, hgb, hgl⟩ := Ints.owns_cell HOR.out (i := k) (by have := HXL.out; omega)
            have HOS := hid ((HOR.out.stored k (.int .i64 17)).1)
            have HBS : Hid (Below w7.heap.size w7 (wr.setCell ⟨g9, k, none⟩ (.int .i64 17))) := hid (HBR.out.setCell (p := ⟨g9, k, none⟩) hgb _)
            have HEQ : Hid ((Ints.vals (oth ns xs k)).set k (.int .i64 17) = Ints.vals (oth ns xs (k + 1))) := hid (vals_oth hlt hv)
            go_wp2
            exact ⟨⟨k + 1, by simp, by omega, hid (by rw [← HEQ.out]; exact HOS.out), HBS⟩, by simp [intOf]; omega⟩
          · have HEQ : Hid (oth ns xs (k + 1) = oth ns xs k) := hid (oth_keep hv)
            go_wp2
            exact ⟨⟨k + 1, by simp, by omega, hid (by rw [HEQ.out]; exact HOR.out), HBR⟩, by simp [intOf]; omega⟩
        · have hk4 : k = 4 := by omega
          have q1 : ¬ (k : Int) < 4 := by omega
          have hz7 := HZ7.out
          have s0 := kept_cell HBR.out (b := w2.heap.size) (o := 0) (by omega) h0
          have s1 := kept_cell HBR.out (b := w2.heap.size) (o := 1) (by omega) h1
          have s2 := kept_cell HBR.out (b := w4.heap.size) (o := 0) (by omega) h2
          have s3 := kept_cell HBR.out (b := w4.heap.size) (o := 1) (by omega) h3
          have s4 := kept_cell HBR.out (b := w6.heap.size) (o := 0) (by omega) h4
          have HBW := hid (HB7.out.trans (HBR.out.mono HB7.out.size))
          have HNU : Hid (Nu.At wr 0 (.slice (some ⟨g9, 0, none⟩) xs.length c9) (oth ns xs 4)) := hid (by
            have hor := HOR.out
            rw [hk4] at hor
            have hle : (oth ns xs 4).length = xs.length := by rw [oth_len, HXL.out]
            exact (nu_owns (by rw [hle]; exact hor)).mono (Nat.zero_le _))
          have HIO := hid (HIE.out (oth ns xs 4) _ wr (by rw [oth_len]; omega) HBW.out HNU.out)
          rw [hag.1, hag.2] at HIO
          have hr2 : w2.heap.size < wr.heap.size := by omega
          have hr4 : w4.heap.size < wr.heap.size := by omega
          have hr6 : w6.heap.size < wr.heap.size := by omega
          clear HNU HOR HBR HIE HVL r5 h0 h1 h2 h3 h4 h5 HO9 HB9 hk4 hlt hz7
          go_wp2_with fail
          refine HIO.out.mono ?_
          rintro e wa ⟨rfl, hba⟩
          have t0 := kept_cell hba hr2 s0
          have t1 := kept_cell hba hr2 s1
          have t2 := kept_cell hba hr4 s2
          have t3 := kept_cell hba hr4 s3
          have t4 := kept_cell hba hr6 s4
          have ha2 : w2.heap.size < wa.heap.size := Nat.lt_of_lt_of_le hr2 hba.size
          have ha4 : w4.heap.size < wa.heap.size := Nat.lt_of_lt_of_le hr4 hba.size
          have ha6 : w6.heap.size < wa.heap.size := Nat.lt_of_lt_of_le hr6 hba.size
          have HBa := hid (HBW.out.trans (hba.mono HBW.out.size))
          have hxb : Below wa.heap.size wa (wa.alloc (.cells #[.int .i64 rc, .int .i64 rv] 29)) := (Below.refl _ wa).alloc (Nat.le_refl _) _
          have y0 := kept_cell hxb ha2 t0
          have y1 := kept_cell hxb ha2 t1
          have y2 := kept_cell hxb ha4 t2
          have y3 := kept_cell hxb ha4 t3
          have y4 := kept_cell hxb ha6 t4
          have y5 : (wa.alloc (.cells #[.int .i64 rc, .int .i64 rv] 29)).cell? ⟨wa.heap.size, 0, none⟩ = some (.int .i64 rc) := by go_simp
          have y6' : (wa.alloc (.cells #[.int .i64 rc, .int .i64 rv] 29)).cell? ⟨wa.heap.size, 1, none⟩ = some (.int .i64 rv) := by go_simp
          have hbs : (wa.alloc (.cells #[.int .i64 rc, .int .i64 rv] 29)).heap.size = wa.heap.size + 1 := by simp
          have HBb := hid (HBa.out.trans (hxb.mono HBa.out.size))
          have HBS := hid hbs
          clear hbs
          clear hba s0 s1 s2 s3 s4 t0 t1 t2 t3 t4 hxb HBW HBa HIO
          have sm1 := HSM.out.1
          have sm2 := HSM.out.2
          go_upto_region 17 with fail
          generalize wa.alloc (.cells #[.int .i64 rc, .int .i64 rv] 29) = wb at *
          have hbs := HBS.out
          have hBd : Below wb.heap.size wb wb.drew := (Below.refl _ wb).drew
          have z0 : wb.drew.cell? ⟨w2.heap.size, 0, none⟩ = some (.int .i64 rc) := y0
          have z1 : wb.drew.cell? ⟨w2.heap.size, 1, none⟩ = some (.int .i64 rv) := y1
          have z2 : wb.drew.cell? ⟨w4.heap.size, 0, none⟩ = some (.int .i64 0) := y2
          have z3 : wb.drew.cell? ⟨w4.heap.size, 1, none⟩ = some (.int .i64 tv) := y3
          have z4 : wb.drew.cell? ⟨w6.heap.size, 0, none⟩ = some (.int .i64 0) := y4
          have z5 : wb.drew.cell? ⟨wa.heap.size, 0, none⟩ = some (.int .i64 rc) := y5
          have z6' : wb.drew.cell? ⟨wa.heap.size, 1, none⟩ = some (.int .i64 rv) := y6'
          have l2 : w2.heap.size < wb.drew.heap.size := by show w2.heap.size < wb.heap.size; omega
          have l4 : w4.heap.size < wb.drew.heap.size := by show w4.heap.size < wb.heap.size; omega
          have l6 : w6.heap.size < wb.drew.heap.size := by show w6.heap.size < wb.heap.size; omega
          have la : wa.heap.size < wb.drew.heap.size := by show wa.heap.size < wb.heap.size; omega
          clear hbs
          have rEq := runEqI rc rv
          have hgd := fun (op : BinOp) (x y : Operand) (wx : World) => run_eqGuard_agg (P := Try.prog) wx op 29 x y #[.int .i64 rc, .int .i64 rv] #[.int .i64 rc, .int .i64 rv] guardI
          have HVFd := hid (HVF.out _ (HBb.out.trans (hBd.mono HBb.out.size)))
          rw [hvf0] at HVFd
          by_cases htv : tv = 2
          · subst htv
            rcases HBO.out rfl with rfl | rfl
            · refine wp_region_held_drew (S := fun wx => wx.cell? ⟨w2.heap.size, 0, none⟩ = some (.int .i64 rc) ∧ wx.cell? ⟨w2.heap.size, 1, none⟩ = some (.int .i64 0) ∧ wx.cell? ⟨w4.heap.size, 0, none⟩ = some (.int .i64 0) ∧ wx.cell? ⟨w4.heap.size, 1, none⟩ = some (.int .i64 2) ∧ wx.cell? ⟨w6.heap.size, 0, none⟩ = some (.int .i64 0) ∧ wx.cell? ⟨wa.heap.size, 0, none⟩ = some (.int .i64 rc) ∧ wx.cell? ⟨wa.heap.size, 1, none⟩ = some (.int .i64 0) ∧ Below wb.heap.size wb wx) (by kernel_rfl) ⟨z0, z1, z2, z3, z4, z5, z6', hBd⟩ (fun hHeld => ?_)
              refine wpAnyH_take (i := 0) (oi := { dst := some 81, op := Go.Op.load 29 (Go.Operand.tmp 10), type := 29, pos := "laws.go:206", after := #[], guard := none }) (v := .agg #[.int .i64 rc, .int .i64 0]) rfl (by kernel_rfl) (by kernel_rfl) (by kernel_rfl) (fun _ _ _ h => h) (Or.inl ⟨by rfl, by intro w hSw; (try dsimp only at hSw); go_simp⟩) (by assumption) ?_
              simp only [Act.put, List.setIfInBounds_toArray, List.set_cons_zero, List.set_cons_succ]
              refine wpAnyH_take (i := 1) (oi := { dst := some 82, op := Go.Op.load 29 (Go.Operand.tmp 5), type := 29, pos := "laws.go:206", after := #[], guard := none }) (v := .agg #[.int .i64 rc, .int .i64 0]) rfl (by kernel_rfl) (by kernel_rfl) (by kernel_rfl) (fun _ _ _ h => h) (Or.inl ⟨by rfl, by intro w hSw; (try dsimp only at hSw); go_simp⟩) (by assumption) ?_
              simp only [Act.put, List.setIfInBounds_toArray, List.set_cons_zero, List.set_cons_succ]
              refine wpAnyH_take (i := 2) (oi := { dst := some 83, op := Go.Op.binOp Go.BinOp.eql 29 (Go.Operand.tmp 81) (Go.Operand.tmp 82) 29, type := 4, pos := "laws.go:206", after := #[{ on := 0, ground := Go.Ground.data }, { on := 1, ground := Go.Ground.data }], guard := none }) (v := .bool true) rfl (by kernel_rfl) (by kernel_rfl) (by kernel_rfl) (fun _ _ _ h => h) (Or.inl ⟨by rfl, by intro w hSw; (try dsimp only at hSw); go_simp⟩) (by assumption) ?_
              simp only [Act.put, List.setIfInBounds_toArray, List.set_cons_zero, List.set_cons_succ]
              refine wpAnyH_take (i := 3) (oi := { dst := some 84, op := Go.Op.move (Go.Operand.tmp 83), type := 4, pos := "laws.go:206", after := #[{ on := 2, ground := Go.Ground.data }], guard := none }) (v := .bool true) rfl (by kernel_rfl) (by kernel_rfl) (by kernel_rfl) (fun _ _ _ h => h) (Or.inl ⟨by rfl, by intro w hSw; (try dsimp only at hSw); go_simp⟩) (by assumption) ?_
              simp only [Act.put, List.setIfInBounds_toArray, List.set_cons_zero, List.set_cons_succ]
              refine wpAnyH_take (i := 4) (oi := { dst := some 85, op := Go.Op.move (Go.Operand.tmp 11), type := 4, pos := "laws.go:206", after := #[{ on := 3, ground := Go.Ground.guard }], guard := some (3, true) }) (v := .bool true) rfl (by kernel_rfl) (by kernel_rfl) (by kernel_rfl) (fun _ _ _ h => h) (Or.inl ⟨by rfl, by intro w hSw; (try dsimp only at hSw); go_simp⟩) (by assumption) ?_
              simp only [Act.put, List.setIfInBounds_toArray, List.set_cons_zero, List.set_cons_succ]
              refine wpAnyH_take (i := 5) (oi := { dst := some 86, op := Go.Op.pick (Go.Operand.tmp 84) (Go.Operand.tmp 85) (Go.Operand.const (Go.Value.bool false)), type := 4, pos := "laws.go:206", after := #[{ on := 3, ground := Go.Ground.data }, { on := 4, ground := Go.Ground.data }], guard := none }) (v := .bool true) rfl (by kernel_rfl) (by kernel_rfl) (by kernel_rfl) (fun _ _ _ h => h) (Or.inl ⟨by rfl, by intro w hSw; (try dsimp only at hSw); go_simp⟩) (by assumption) ?_
              simp only [Act.put, List.setIfInBounds_toArray, List.set_cons_zero, List.set_cons_succ]
              refine wpAnyH_take (i := 6) (oi := { dst := some 87, op := Go.Op.move (Go.Operand.tmp 86), type := 4, pos := "laws.go:206", after := #[{ on := 5, ground := Go.Ground.data }, { on := 3, ground := Go.Ground.chain }], guard := none }) (v := .bool true) rfl (by kernel_rfl) (by kernel_rfl) (by kernel_rfl) (fun _ _ _ h => h) (Or.inl ⟨by rfl, by intro w hSw; (try dsimp only at hSw); go_simp⟩) (by assumption) ?_
              simp only [Act.put, List.setIfInBounds_toArray, List.set_cons_zero, List.set_cons_succ]
              refine wpAnyH_take (i := 7) (oi := { dst := some 88, op := Go.Op.fieldAddr 29 (Go.Operand.tmp 6) 0, type := 0, pos := "laws.go:206", after := #[{ on := 6, ground := Go.Ground.guard }], guard := some (6, true) }) (v := .pointer (some ⟨w4.heap.size, 0, none⟩)) rfl (by kernel_rfl) (by kernel_rfl) (by kernel_rfl) (fun _ _ _ h => h) (Or.inl ⟨by rfl, by intro w hSw; (try dsimp only at hSw); go_simp⟩) (by assumption) ?_
              simp only [Act.put, List.setIfInBounds_toArray, List.set_cons_zero, List.set_cons_succ]
              refine wpAnyH_take (i := 8) (oi := { dst := some 89, op := Go.Op.load 2 (Go.Operand.tmp 88), type := 2, pos := "laws.go:206", after := #[{ on := 7, ground := Go.Ground.data }, { on := 6, ground := Go.Ground.guard }], guard := some (6, true) }) (v := .int .i64 0) rfl (by kernel_rfl) (by kernel_rfl) (by kernel_rfl) (fun _ _ _ h => h) (Or.inl ⟨by rfl, by intro w hSw; (try dsimp only at hSw); go_simp⟩) (by assumption) ?_
              simp only [Act.put, List.setIfInBounds_toArray, List.set_cons_zero, List.set_cons_succ]
              refine wpAnyH_take (i := 9) (oi := { dst := some 90, op := Go.Op.binOp Go.BinOp.eql 2 (Go.Operand.tmp 89) (Go.Operand.const (Go.Value.int Go.IntKind.i64 0)) 2, type := 4, pos := "laws.go:206", after := #[{ on := 8, ground := Go.Ground.data }, { on := 6, ground := Go.Ground.guard }], guard := some (6, true) }) (v := .bool true) rfl (by kernel_rfl) (by kernel_rfl) (by kernel_rfl) (fun _ _ _ h => h) (Or.inl ⟨by rfl, by intro w hSw; (try dsimp only at hSw); go_simp⟩) (by assumption) ?_
              simp only [Act.put, List.setIfInBounds_toArray, List.set_cons_zero, List.set_cons_succ]
              refine wpAnyH_take (i := 10) (oi := { dst := some 91, op := Go.Op.pick (Go.Operand.tmp 87) (Go.Operand.tmp 90) (Go.Operand.const (Go.Value.bool false)), type := 4, pos := "laws.go:206", after := #[{ on := 6, ground := Go.Ground.data }, { on := 9, ground := Go.Ground.data }], guard := none }) (v := .bool true) rfl (by kernel_rfl) (by kernel_rfl) (by kernel_rfl) (fun _ _ _ h => h) (Or.inl ⟨by rfl, by intro w hSw; (try dsimp only at hSw); go_simp⟩) (by assumption) ?_
              simp only [Act.put, List.setIfInBounds_toArray, List.set_cons_zero, List.set_cons_succ]
              refine wpAnyH_take (i := 11) (oi := { dst := some 92, op := Go.Op.move (Go.Operand.tmp 91), type := 4, pos := "laws.go:206", after := #[{ on := 10, ground := Go.Ground.data }, { on := 6, ground := Go.Ground.chain }], guard := none }) (v := .bool true) rfl (by kernel_rfl) (by kernel_rfl) (by kernel_rfl) (fun _ _ _ h => h) (Or.inl ⟨by rfl, by intro w hSw; (try dsimp only at hSw); go_simp⟩) (by assumption) ?_
              simp only [Act.put, List.setIfInBounds_toArray, List.set_cons_zero, List.set_cons_succ]
              refine wpAnyH_take (i := 12) (oi := { dst := some 93, op := Go.Op.fieldAddr 33 (Go.Operand.tmp 7) 0, type := 0, pos := "laws.go:206", after := #[{ on := 11, ground := Go.Ground.guard }], guard := some (11, true) }) (v := .pointer (some ⟨w6.heap.size, 0, none⟩)) rfl (by kernel_rfl) (by kernel_rfl) (by kernel_rfl) (fun _ _ _ h => h) (Or.inl ⟨by rfl, by intro w hSw; (try dsimp only at hSw); go_simp⟩) (by assumption) ?_
              simp only [Act.put, List.setIfInBounds_toArray, List.set_cons_zero, List.set_cons_succ]
              refine wpAnyH_take (i := 13) (oi := { dst := some 94, op := Go.Op.load 2 (Go.Operand.tmp 93), type := 2, pos := "laws.go:206", after := #[{ on := 12, ground := Go.Ground.data }, { on := 11, ground := Go.Ground.guard }], guard := some (11, true) }) (v := .int .i64 0) rfl (by kernel_rfl) (by kernel_rfl) (by kernel_rfl) (fun _ _ _ h => h) (Or.inl ⟨by rfl, by intro w hSw; (try dsimp only at hSw); go_simp⟩) (by assumption) ?_
              simp only [Act.put, List.setIfInBounds_toArray, List.set_cons_zero, List.set_cons_succ]
              refine wpAnyH_take (i := 14) (oi := { dst := some 95, op := Go.Op.binOp Go.BinOp.eql 2 (Go.Operand.tmp 94) (Go.Operand.const (Go.Value.int Go.IntKind.i64 0)) 2, type := 4, pos := "laws.go:206", after := #[{ on := 13, ground := Go.Ground.data }, { on := 11, ground := Go.Ground.guard }], guard := some (11, true) }) (v := .bool true) rfl (by kernel_rfl) (by kernel_rfl) (by kernel_rfl) (fun _ _ _ h => h) (Or.inl ⟨by rfl, by intro w hSw; (try dsimp only at hSw); go_simp⟩) (by assumption) ?_
              simp only [Act.put, List.setIfInBounds_toArray, List.set_cons_zero, List.set_cons_succ]
              refine wpAnyH_take (i := 15) (oi := { dst := some 96, op := Go.Op.pick (Go.Operand.tmp 92) (Go.Operand.tmp 95) (Go.Operand.const (Go.Value.bool false)), type := 4, pos := "laws.go:206", after := #[{ on := 11, ground := Go.Ground.data }, { on := 14, ground := Go.Ground.data }], guard := none }) (v := .bool true) rfl (by kernel_rfl) (by kernel_rfl) (by kernel_rfl) (fun _ _ _ h => h) (Or.inl ⟨by rfl, by intro w hSw; (try dsimp only at hSw); go_simp⟩) (by assumption) ?_
              simp only [Act.put, List.setIfInBounds_toArray, List.set_cons_zero, List.set_cons_succ]
              refine wpAnyH_take (i := 16) (oi := { dst := some 97, op := Go.Op.move (Go.Operand.tmp 96), type := 4, pos := "laws.go:206", after := #[{ on := 15, ground := Go.Ground.data }, { on := 11, ground := Go.Ground.chain }], guard := none }) (v := .bool true) rfl (by kernel_rfl) (by kernel_rfl) (by kernel_rfl) (fun _ _ _ h => h) (Or.inl ⟨by rfl, by intro w hSw; (try dsimp only at hSw); go_simp⟩) (by assumption) ?_
              simp only [Act.put, List.setIfInBounds_toArray, List.set_cons_zero, List.set_cons_succ]
              refine wpAnyH_take (i := 17) (oi := { dst := some 98, op := Go.Op.move (Go.Operand.tmp 4), type := 25, pos := "laws.go:206", after := #[{ on := 16, ground := Go.Ground.guard }], guard := some (16, true) }) (v := .slice (some ⟨gv, ov, none⟩) xs.length cv) rfl (by kernel_rfl) (by kernel_rfl) (by kernel_rfl) (fun _ _ _ h => h) (Or.inl ⟨by rfl, by intro w hSw; (try dsimp only at hSw); go_simp⟩) (by assumption) ?_
              simp only [Act.put, List.setIfInBounds_toArray, List.set_cons_zero, List.set_cons_succ]
              refine wpAnyH_ready (rs := [18]) (by kernel_rfl) (by simp) ?_
              refine AllReadyH.cons (o := { dst := some 99, op := Go.Op.call { callee := Go.Callee.value (Go.Operand.func 12), args := #[Go.Operand.tmp 98], argTypes := #[25] }, type := 2, pos := "laws.go:206", after := #[{ on := 17, ground := Go.Ground.data }, { on := 16, ground := Go.Ground.chain }, { on := 16, ground := Go.Ground.guard }], guard := some (16, true) }) rfl (fun K hK => ?_) AllReadyH.nil
              go_simp
              go_at_call 12
              refine (HVFd.out).mono ?_
              rintro e wd ⟨rfl, hbx⟩
              have m0 := kept_cell hbx l2 z0
              have m1 := kept_cell hbx l2 z1
              have m2 := kept_cell hbx l4 z2
              have m3 := kept_cell hbx l4 z3
              have m4 := kept_cell hbx l6 z4
              have m5 := kept_cell hbx la z5
              have m6 := kept_cell hbx la z6'
              have l2m := Nat.lt_of_lt_of_le l2 hbx.size
              have l4m := Nat.lt_of_lt_of_le l4 hbx.size
              have l6m := Nat.lt_of_lt_of_le l6 hbx.size
              have lam := Nat.lt_of_lt_of_le la hbx.size
              have hm : Below wb.heap.size wb wd := hBd.trans (hbx.mono hBd.size)
              clear hbx
              go_wp2_with fail
              refine hK.out _ _ ⟨m0, m1, m2, m3, m4, m5, m6, hm⟩ (fun hHeld => ?_)
              clear hK K
              try simp only [Act.put, List.setIfInBounds_toArray, List.set_cons_zero, List.set_cons_succ]
              refine wpAnyH_take (i := 19) (oi := { dst := some 100, op := Go.Op.binOp Go.BinOp.eql 2 (Go.Operand.tmp 99) (Go.Operand.const (Go.Value.int Go.IntKind.i64 0)) 2, type := 4, pos := "laws.go:206", after := #[{ on := 18, ground := Go.Ground.data }, { on := 16, ground := Go.Ground.guard }], guard := some (16, true) }) (v := .bool true) rfl (by kernel_rfl) (by kernel_rfl) (by kernel_rfl) (fun _ _ _ h => h) (Or.inl ⟨by rfl, by intro w hSw; (try dsimp only at hSw); go_simp⟩) (by assumption) ?_
              simp only [Act.put, List.setIfInBounds_toArray, List.set_cons_zero, List.set_cons_succ]
              refine wpAnyH_take (i := 20) (oi := { dst := some 101, op := Go.Op.pick (Go.Operand.tmp 97) (Go.Operand.tmp 100) (Go.Operand.const (Go.Value.bool false)), type := 4, pos := "laws.go:206", after := #[{ on := 16, ground := Go.Ground.data }, { on := 19, ground := Go.Ground.data }], guard := none }) (v := .bool true) rfl (by kernel_rfl) (by kernel_rfl) (by kernel_rfl) (fun _ _ _ h => h) (Or.inl ⟨by rfl, by intro w hSw; (try dsimp only at hSw); go_simp⟩) (by assumption) ?_
              simp only [Act.put, List.setIfInBounds_toArray, List.set_cons_zero, List.set_cons_succ]
              refine wpAnyH_take (i := 21) (oi := { dst := some 102, op := Go.Op.move (Go.Operand.tmp 101), type := 4, pos := "laws.go:206", after := #[{ on := 20, ground := Go.Ground.data }, { on := 18, ground := Go.Ground.chain }], guard := none }) (v := .bool true) rfl (by kernel_rfl) (by kernel_rfl) (by kernel_rfl) (fun _ _ _ h => h) (Or.inl ⟨by rfl, by intro w hSw; (try dsimp only at hSw); go_simp⟩) (by assumption) ?_
              simp only [Act.put, List.setIfInBounds_toArray, List.set_cons_zero, List.set_cons_succ]
              refine wpAnyH_take (i := 22) (oi := { dst := some 103, op := Go.Op.load 29 (Go.Operand.tmp 5), type := 29, pos := "laws.go:206", after := #[{ on := 21, ground := Go.Ground.guard }], guard := some (21, true) }) (v := .agg #[.int .i64 rc, .int .i64 0]) rfl (by kernel_rfl) (by kernel_rfl) (by kernel_rfl) (fun _ _ _ h => h) (Or.inl ⟨by rfl, by intro w hSw; (try dsimp only at hSw); go_simp⟩) (by assumption) ?_
              simp only [Act.put, List.setIfInBounds_toArray, List.set_cons_zero, List.set_cons_succ]
              refine wpAnyH_take (i := 23) (oi := { dst := some 104, op := Go.Op.move (Go.Operand.tmp 3), type := 24, pos := "laws.go:206", after := #[{ on := 21, ground := Go.Ground.guard }], guard := some (21, true) }) (v := .slice au ns.length cu) rfl (by kernel_rfl) (by kernel_rfl) (by kernel_rfl) (fun _ _ _ h => h) (Or.inl ⟨by rfl, by intro w hSw; (try dsimp only at hSw); go_simp⟩) (by assumption) ?_
              simp only [Act.put, List.setIfInBounds_toArray, List.set_cons_zero, List.set_cons_succ]
              refine wpAnyH_take (i := 24) (oi := { dst := some 105, op := Go.Op.move (Go.Operand.tmp 4), type := 25, pos := "laws.go:206", after := #[{ on := 21, ground := Go.Ground.guard }], guard := some (21, true) }) (v := .slice (some ⟨gv, ov, none⟩) xs.length cv) rfl (by kernel_rfl) (by kernel_rfl) (by kernel_rfl) (fun _ _ _ h => h) (Or.inl ⟨by rfl, by intro w hSw; (try dsimp only at hSw); go_simp⟩) (by assumption) ?_
              simp only [Act.put, List.setIfInBounds_toArray, List.set_cons_zero, List.set_cons_succ]
              refine wpAnyH_ready (rs := [25]) (by kernel_rfl) (by simp) ?_
              refine AllReadyH.cons (o := { dst := some 106, op := Go.Op.call { callee := Go.Callee.value (Go.Operand.func 8), args := #[Go.Operand.tmp 104, Go.Operand.tmp 105], argTypes := #[24, 25] }, type := 29, pos := "laws.go:206", after := #[{ on := 23, ground := Go.Ground.data }, { on := 24, ground := Go.Ground.data }, { on := 21, ground := Go.Ground.chain }, { on := 21, ground := Go.Ground.guard }], guard := some (21, true) }) rfl (fun K hK => ?_) AllReadyH.nil
              go_simp
              go_at_call 8
              refine (HSE.out _ (HBb.out.trans (hm.mono HBb.out.size))).mono ?_
              rintro e wf ⟨rfl, hbx⟩
              have n0 := kept_cell hbx l2m m0
              have n1 := kept_cell hbx l2m m1
              have n2 := kept_cell hbx l4m m2
              have n3 := kept_cell hbx l4m m3
              have n4 := kept_cell hbx l6m m4
              have n5 := kept_cell hbx lam m5
              have n6 := kept_cell hbx lam m6
              have l2n := Nat.lt_of_lt_of_le l2m hbx.size
              have l4n := Nat.lt_of_lt_of_le l4m hbx.size
              have l6n := Nat.lt_of_lt_of_le l6m hbx.size
              have lan := Nat.lt_of_lt_of_le lam hbx.size
              have hn : Below wb.heap.size wb wf := hm.trans (hbx.mono hm.size)
              clear hbx
              go_wp2_with fail
              refine hK.out _ _ ⟨n0, n1, n2, n3, n4, n5, n6, hn⟩ (fun hHeld => ?_)
              clear hK K
              try simp only [Act.put, List.setIfInBounds_toArray, List.set_cons_zero, List.set_cons_succ]
              refine wpAnyH_take (i := 26) (oi := { dst := some 107, op := Go.Op.binOp Go.BinOp.eql 29 (Go.Operand.tmp 103) (Go.Operand.tmp 106) 29, type := 4, pos := "laws.go:206", after := #[{ on := 22, ground := Go.Ground.data }, { on := 25, ground := Go.Ground.data }, { on := 21, ground := Go.Ground.guard }], guard := some (21, true) }) (v := .bool true) rfl (by kernel_rfl) (by kernel_rfl) (by kernel_rfl) (fun _ _ _ h => h) (Or.inl ⟨by rfl, by intro w hSw; (try dsimp only at hSw); go_simp⟩) (by assumption) ?_
              simp only [Act.put, List.setIfInBounds_toArray, List.set_cons_zero, List.set_cons_succ]
              refine wpAnyH_take (i := 27) (oi := { dst := some 108, op := Go.Op.pick (Go.Operand.tmp 102) (Go.Operand.tmp 107) (Go.Operand.const (Go.Value.bool false)), type := 4, pos := "laws.go:206", after := #[{ on := 21, ground := Go.Ground.data }, { on := 26, ground := Go.Ground.data }], guard := none }) (v := .bool true) rfl (by kernel_rfl) (by kernel_rfl) (by kernel_rfl) (fun _ _ _ h => h) (Or.inl ⟨by rfl, by intro w hSw; (try dsimp only at hSw); go_simp⟩) (by assumption) ?_
              simp only [Act.put, List.setIfInBounds_toArray, List.set_cons_zero, List.set_cons_succ]
              refine wpAnyH_take (i := 28) (oi := { dst := some 109, op := Go.Op.move (Go.Operand.tmp 108), type := 4, pos := "laws.go:206", after := #[{ on := 27, ground := Go.Ground.data }, { on := 25, ground := Go.Ground.chain }], guard := none }) (v := .bool true) rfl (by kernel_rfl) (by kernel_rfl) (by kernel_rfl) (fun _ _ _ h => h) (Or.inl ⟨by rfl, by intro w hSw; (try dsimp only at hSw); go_simp⟩) (by assumption) ?_
              simp only [Act.put, List.setIfInBounds_toArray, List.set_cons_zero, List.set_cons_succ]
              refine wpAnyH_take (i := 29) (oi := { dst := some 110, op := Go.Op.fieldAddr 29 (Go.Operand.tmp 6) 1, type := 0, pos := "laws.go:206", after := #[{ on := 28, ground := Go.Ground.guard }], guard := some (28, true) }) (v := .pointer (some ⟨w4.heap.size, 1, none⟩)) rfl (by kernel_rfl) (by kernel_rfl) (by kernel_rfl) (fun _ _ _ h => h) (Or.inl ⟨by rfl, by intro w hSw; (try dsimp only at hSw); go_simp⟩) (by assumption) ?_
              simp only [Act.put, List.setIfInBounds_toArray, List.set_cons_zero, List.set_cons_succ]
              refine wpAnyH_take (i := 30) (oi := { dst := some 111, op := Go.Op.load 2 (Go.Operand.tmp 110), type := 2, pos := "laws.go:206", after := #[{ on := 29, ground := Go.Ground.data }, { on := 28, ground := Go.Ground.guard }], guard := some (28, true) }) (v := .int .i64 2) rfl (by kernel_rfl) (by kernel_rfl) (by kernel_rfl) (fun _ _ _ h => h) (Or.inl ⟨by rfl, by intro w hSw; (try dsimp only at hSw); go_simp⟩) (by assumption) ?_
              simp only [Act.put, List.setIfInBounds_toArray, List.set_cons_zero, List.set_cons_succ]
              refine wpAnyH_take (i := 31) (oi := { dst := some 112, op := Go.Op.binOp Go.BinOp.neq 2 (Go.Operand.tmp 111) (Go.Operand.const (Go.Value.int Go.IntKind.i64 2)) 2, type := 4, pos := "laws.go:206", after := #[{ on := 30, ground := Go.Ground.data }, { on := 28, ground := Go.Ground.guard }], guard := some (28, true) }) (v := .bool false) rfl (by kernel_rfl) (by kernel_rfl) (by kernel_rfl) (fun _ _ _ h => h) (Or.inl ⟨by rfl, by intro w hSw; (try dsimp only at hSw); go_simp⟩) (by assumption) ?_
              simp only [Act.put, List.setIfInBounds_toArray, List.set_cons_zero, List.set_cons_succ]
              refine wpAnyH_take (i := 32) (oi := { dst := some 113, op := Go.Op.move (Go.Operand.tmp 112), type := 4, pos := "laws.go:206", after := #[{ on := 31, ground := Go.Ground.data }, { on := 28, ground := Go.Ground.chain }, { on := 28, ground := Go.Ground.guard }], guard := some (28, true) }) (v := .bool false) rfl (by kernel_rfl) (by kernel_rfl) (by kernel_rfl) (fun _ _ _ h => h) (Or.inl ⟨by rfl, by intro w hSw; (try dsimp only at hSw); go_simp⟩) (by assumption) ?_
              simp only [Act.put, List.setIfInBounds_toArray, List.set_cons_zero, List.set_cons_succ]
              refine wpAnyH_take (i := 33) (oi := { dst := some 114, op := Go.Op.fieldAddr 29 (Go.Operand.tmp 5) 1, type := 0, pos := "laws.go:206", after := #[{ on := 32, ground := Go.Ground.guard }], guard := some (32, false) }) (v := .pointer (some ⟨w2.heap.size, 1, none⟩)) rfl (by kernel_rfl) (by kernel_rfl) (by kernel_rfl) (fun _ _ _ h => h) (Or.inl ⟨by rfl, by intro w hSw; (try dsimp only at hSw); go_simp⟩) (by assumption) ?_
              simp only [Act.put, List.setIfInBounds_toArray, List.set_cons_zero, List.set_cons_succ]
              refine wpAnyH_take (i := 34) (oi := { dst := some 115, op := Go.Op.load 2 (Go.Operand.tmp 114), type := 2, pos := "laws.go:206", after := #[{ on := 33, ground := Go.Ground.data }, { on := 32, ground := Go.Ground.guard }], guard := some (32, false) }) (v := .int .i64 0) rfl (by kernel_rfl) (by kernel_rfl) (by kernel_rfl) (fun _ _ _ h => h) (Or.inl ⟨by rfl, by intro w hSw; (try dsimp only at hSw); go_simp⟩) (by assumption) ?_
              simp only [Act.put, List.setIfInBounds_toArray, List.set_cons_zero, List.set_cons_succ]
              refine wpAnyH_take (i := 35) (oi := { dst := some 116, op := Go.Op.binOp Go.BinOp.eql 2 (Go.Operand.tmp 115) (Go.Operand.const (Go.Value.int Go.IntKind.i64 0)) 2, type := 4, pos := "laws.go:206", after := #[{ on := 34, ground := Go.Ground.data }, { on := 32, ground := Go.Ground.guard }], guard := some (32, false) }) (v := .bool true) rfl (by kernel_rfl) (by kernel_rfl) (by kernel_rfl) (fun _ _ _ h => h) (Or.inl ⟨by rfl, by intro w hSw; (try dsimp only at hSw); go_simp⟩) (by assumption) ?_
              simp only [Act.put, List.setIfInBounds_toArray, List.set_cons_zero, List.set_cons_succ]
              refine wpAnyH_take (i := 36) (oi := { dst := some 117, op := Go.Op.pick (Go.Operand.tmp 113) (Go.Operand.const (Go.Value.bool true)) (Go.Operand.tmp 116), type := 4, pos := "laws.go:206", after := #[{ on := 32, ground := Go.Ground.data }, { on := 35, ground := Go.Ground.data }, { on := 28, ground := Go.Ground.guard }], guard := some (28, true) }) (v := .bool true) rfl (by kernel_rfl) (by kernel_rfl) (by kernel_rfl) (fun _ _ _ h => h) (Or.inl ⟨by rfl, by intro w hSw; (try dsimp only at hSw); go_simp⟩) (by assumption) ?_
              simp only [Act.put, List.setIfInBounds_toArray, List.set_cons_zero, List.set_cons_succ]
              refine wpAnyH_take (i := 37) (oi := { dst := some 118, op := Go.Op.move (Go.Operand.tmp 117), type := 4, pos := "laws.go:206", after := #[{ on := 36, ground := Go.Ground.data }, { on := 32, ground := Go.Ground.chain }, { on := 28, ground := Go.Ground.guard }], guard := some (28, true) }) (v := .bool true) rfl (by kernel_rfl) (by kernel_rfl) (by kernel_rfl) (fun _ _ _ h => h) (Or.inl ⟨by rfl, by intro w hSw; (try dsimp only at hSw); go_simp⟩) (by assumption) ?_
              simp only [Act.put, List.setIfInBounds_toArray, List.set_cons_zero, List.set_cons_succ]
              refine wpAnyH_take (i := 38) (oi := { dst := some 119, op := Go.Op.fieldAddr 29 (Go.Operand.tmp 5) 1, type := 0, pos := "laws.go:206", after := #[{ on := 37, ground := Go.Ground.guard }], guard := some (37, false) }) (v := undef) rfl (by kernel_rfl) (by kernel_rfl) (by kernel_rfl) (fun _ _ _ h => h) (Or.inr ⟨by rfl, rfl⟩) (by assumption) ?_
              simp only [Act.put, List.setIfInBounds_toArray, List.set_cons_zero, List.set_cons_succ]
              refine wpAnyH_take (i := 39) (oi := { dst := some 120, op := Go.Op.load 2 (Go.Operand.tmp 119), type := 2, pos := "laws.go:206", after := #[{ on := 38, ground := Go.Ground.data }, { on := 37, ground := Go.Ground.guard }], guard := some (37, false) }) (v := undef) rfl (by kernel_rfl) (by kernel_rfl) (by kernel_rfl) (fun _ _ _ h => h) (Or.inr ⟨by rfl, rfl⟩) (by assumption) ?_
              simp only [Act.put, List.setIfInBounds_toArray, List.set_cons_zero, List.set_cons_succ]
              refine wpAnyH_take (i := 40) (oi := { dst := some 121, op := Go.Op.binOp Go.BinOp.eql 2 (Go.Operand.tmp 120) (Go.Operand.const (Go.Value.int Go.IntKind.i64 1)) 2, type := 4, pos := "laws.go:206", after := #[{ on := 39, ground := Go.Ground.data }, { on := 37, ground := Go.Ground.guard }], guard := some (37, false) }) (v := undef) rfl (by kernel_rfl) (by kernel_rfl) (by kernel_rfl) (fun _ _ _ h => h) (Or.inr ⟨by rfl, rfl⟩) (by assumption) ?_
              simp only [Act.put, List.setIfInBounds_toArray, List.set_cons_zero, List.set_cons_succ]
              refine wpAnyH_take (i := 41) (oi := { dst := some 122, op := Go.Op.pick (Go.Operand.tmp 118) (Go.Operand.const (Go.Value.bool true)) (Go.Operand.tmp 121), type := 4, pos := "laws.go:206", after := #[{ on := 37, ground := Go.Ground.data }, { on := 40, ground := Go.Ground.data }, { on := 28, ground := Go.Ground.guard }], guard := some (28, true) }) (v := .bool true) rfl (by kernel_rfl) (by kernel_rfl) (by kernel_rfl) (fun _ _ _ h => h) (Or.inl ⟨by rfl, by intro w hSw; (try dsimp only at hSw); go_simp⟩) (by assumption) ?_
              simp only [Act.put, List.setIfInBounds_toArray, List.set_cons_zero, List.set_cons_succ]
              refine wpAnyH_take (i := 42) (oi := { dst := some 123, op := Go.Op.pick (Go.Operand.tmp 109) (Go.Operand.tmp 122) (Go.Operand.const (Go.Value.bool false)), type := 4, pos := "laws.go:206", after := #[{ on := 28, ground := Go.Ground.data }, { on := 41, ground := Go.Ground.data }], guard := none }) (v := .bool true) rfl (by kernel_rfl) (by kernel_rfl) (by kernel_rfl) (fun _ _ _ h => h) (Or.inl ⟨by rfl, by intro w hSw; (try dsimp only at hSw); go_simp⟩) (by assumption) ?_
              simp only [Act.put, List.setIfInBounds_toArray, List.set_cons_zero, List.set_cons_succ]
              refine wpAnyH_take (i := 43) (oi := { dst := some 2, op := Go.Op.assign (Go.Operand.tmp 123), type := 4, pos := "laws.go:206", after := #[{ on := 42, ground := Go.Ground.data }, { on := 37, ground := Go.Ground.chain }, { on := 0, ground := Go.Ground.phase }, { on := 1, ground := Go.Ground.phase }, { on := 2, ground := Go.Ground.phase }, { on := 3, ground := Go.Ground.phase }, { on := 4, ground := Go.Ground.phase }, { on := 5, ground := Go.Ground.phase }, { on := 6, ground := Go.Ground.phase }, { on := 7, ground := Go.Ground.phase }, { on := 8, ground := Go.Ground.phase }, { on := 9, ground := Go.Ground.phase }, { on := 10, ground := Go.Ground.phase }, { on := 11, ground := Go.Ground.phase }, { on := 12, ground := Go.Ground.phase }, { on := 13, ground := Go.Ground.phase }, { on := 14, ground := Go.Ground.phase }, { on := 15, ground := Go.Ground.phase }, { on := 16, ground := Go.Ground.phase }, { on := 17, ground := Go.Ground.phase }, { on := 18, ground := Go.Ground.phase }, { on := 19, ground := Go.Ground.phase }, { on := 20, ground := Go.Ground.phase }, { on := 21, ground := Go.Ground.phase }, { on := 22, ground := Go.Ground.phase }, { on := 23, ground := Go.Ground.phase }, { on := 24, ground := Go.Ground.phase }, { on := 25, ground := Go.Ground.phase }, { on := 26, ground := Go.Ground.phase }, { on := 27, ground := Go.Ground.phase }, { on := 28, ground := Go.Ground.phase }, { on := 29, ground := Go.Ground.phase }, { on := 30, ground := Go.Ground.phase }, { on := 31, ground := Go.Ground.phase }, { on := 32, ground := Go.Ground.phase }, { on := 33, ground := Go.Ground.phase }, { on := 34, ground := Go.Ground.phase }, { on := 35, ground := Go.Ground.phase }, { on := 36, ground := Go.Ground.phase }, { on := 37, ground := Go.Ground.phase }, { on := 38, ground := Go.Ground.phase }, { on := 39, ground := Go.Ground.phase }, { on := 40, ground := Go.Ground.phase }, { on := 41, ground := Go.Ground.phase }, { on := 42, ground := Go.Ground.phase }], guard := none }) (v := .bool true) rfl (by kernel_rfl) (by kernel_rfl) (by kernel_rfl) (fun _ _ _ h => h) (Or.inl ⟨by rfl, by intro w hSw; (try dsimp only at hSw); go_simp⟩) (by assumption) ?_
              simp only [Act.put, List.setIfInBounds_toArray, List.set_cons_zero, List.set_cons_succ]
              refine wpAnyH_done (by kernel_rfl) ?_ _
              go_wp2
              go_ret
              exact ⟨rfl, HB1.out.trans ((HBb.out.trans (hn.mono HBb.out.size)).mono HB1.out.size)⟩
            · refine wp_region_held_drew (S := fun wx => wx.cell? ⟨w2.heap.size, 0, none⟩ = some (.int .i64 rc) ∧ wx.cell? ⟨w2.heap.size, 1, none⟩ = some (.int .i64 1) ∧ wx.cell? ⟨w4.heap.size, 0, none⟩ = some (.int .i64 0) ∧ wx.cell? ⟨w4.heap.size, 1, none⟩ = some (.int .i64 2) ∧ wx.cell? ⟨w6.heap.size, 0, none⟩ = some (.int .i64 0) ∧ wx.cell? ⟨wa.heap.size, 0, none⟩ = some (.int .i64 rc) ∧ wx.cell? ⟨wa.heap.size, 1, none⟩ = some (.int .i64 1) ∧ Below wb.heap.size wb wx) (by kernel_rfl) ⟨z0, z1, z2, z3, z4, z5, z6', hBd⟩ (fun hHeld => ?_)
              refine wpAnyH_take (i := 0) (oi := { dst := some 81, op := Go.Op.load 29 (Go.Operand.tmp 10), type := 29, pos := "laws.go:206", after := #[], guard := none }) (v := .agg #[.int .i64 rc, .int .i64 1]) rfl (by kernel_rfl) (by kernel_rfl) (by kernel_rfl) (fun _ _ _ h => h) (Or.inl ⟨by rfl, by intro w hSw; (try dsimp only at hSw); go_simp⟩) (by assumption) ?_
              simp only [Act.put, List.setIfInBounds_toArray, List.set_cons_zero, List.set_cons_succ]
              refine wpAnyH_take (i := 1) (oi := { dst := some 82, op := Go.Op.load 29 (Go.Operand.tmp 5), type := 29, pos := "laws.go:206", after := #[], guard := none }) (v := .agg #[.int .i64 rc, .int .i64 1]) rfl (by kernel_rfl) (by kernel_rfl) (by kernel_rfl) (fun _ _ _ h => h) (Or.inl ⟨by rfl, by intro w hSw; (try dsimp only at hSw); go_simp⟩) (by assumption) ?_
              simp only [Act.put, List.setIfInBounds_toArray, List.set_cons_zero, List.set_cons_succ]
              refine wpAnyH_take (i := 2) (oi := { dst := some 83, op := Go.Op.binOp Go.BinOp.eql 29 (Go.Operand.tmp 81) (Go.Operand.tmp 82) 29, type := 4, pos := "laws.go:206", after := #[{ on := 0, ground := Go.Ground.data }, { on := 1, ground := Go.Ground.data }], guard := none }) (v := .bool true) rfl (by kernel_rfl) (by kernel_rfl) (by kernel_rfl) (fun _ _ _ h => h) (Or.inl ⟨by rfl, by intro w hSw; (try dsimp only at hSw); go_simp⟩) (by assumption) ?_
              simp only [Act.put, List.setIfInBounds_toArray, List.set_cons_zero, List.set_cons_succ]
              refine wpAnyH_take (i := 3) (oi := { dst := some 84, op := Go.Op.move (Go.Operand.tmp 83), type := 4, pos := "laws.go:206", after := #[{ on := 2, ground := Go.Ground.data }], guard := none }) (v := .bool true) rfl (by kernel_rfl) (by kernel_rfl) (by kernel_rfl) (fun _ _ _ h => h) (Or.inl ⟨by rfl, by intro w hSw; (try dsimp only at hSw); go_simp⟩) (by assumption) ?_
              simp only [Act.put, List.setIfInBounds_toArray, List.set_cons_zero, List.set_cons_succ]
              refine wpAnyH_take (i := 4) (oi := { dst := some 85, op := Go.Op.move (Go.Operand.tmp 11), type := 4, pos := "laws.go:206", after := #[{ on := 3, ground := Go.Ground.guard }], guard := some (3, true) }) (v := .bool true) rfl (by kernel_rfl) (by kernel_rfl) (by kernel_rfl) (fun _ _ _ h => h) (Or.inl ⟨by rfl, by intro w hSw; (try dsimp only at hSw); go_simp⟩) (by assumption) ?_
              simp only [Act.put, List.setIfInBounds_toArray, List.set_cons_zero, List.set_cons_succ]
              refine wpAnyH_take (i := 5) (oi := { dst := some 86, op := Go.Op.pick (Go.Operand.tmp 84) (Go.Operand.tmp 85) (Go.Operand.const (Go.Value.bool false)), type := 4, pos := "laws.go:206", after := #[{ on := 3, ground := Go.Ground.data }, { on := 4, ground := Go.Ground.data }], guard := none }) (v := .bool true) rfl (by kernel_rfl) (by kernel_rfl) (by kernel_rfl) (fun _ _ _ h => h) (Or.inl ⟨by rfl, by intro w hSw; (try dsimp only at hSw); go_simp⟩) (by assumption) ?_
              simp only [Act.put, List.setIfInBounds_toArray, List.set_cons_zero, List.set_cons_succ]
              refine wpAnyH_take (i := 6) (oi := { dst := some 87, op := Go.Op.move (Go.Operand.tmp 86), type := 4, pos := "laws.go:206", after := #[{ on := 5, ground := Go.Ground.data }, { on := 3, ground := Go.Ground.chain }], guard := none }) (v := .bool true) rfl (by kernel_rfl) (by kernel_rfl) (by kernel_rfl) (fun _ _ _ h => h) (Or.inl ⟨by rfl, by intro w hSw; (try dsimp only at hSw); go_simp⟩) (by assumption) ?_
              simp only [Act.put, List.setIfInBounds_toArray, List.set_cons_zero, List.set_cons_succ]
              refine wpAnyH_take (i := 7) (oi := { dst := some 88, op := Go.Op.fieldAddr 29 (Go.Operand.tmp 6) 0, type := 0, pos := "laws.go:206", after := #[{ on := 6, ground := Go.Ground.guard }], guard := some (6, true) }) (v := .pointer (some ⟨w4.heap.size, 0, none⟩)) rfl (by kernel_rfl) (by kernel_rfl) (by kernel_rfl) (fun _ _ _ h => h) (Or.inl ⟨by rfl, by intro w hSw; (try dsimp only at hSw); go_simp⟩) (by assumption) ?_
              simp only [Act.put, List.setIfInBounds_toArray, List.set_cons_zero, List.set_cons_succ]
              refine wpAnyH_take (i := 8) (oi := { dst := some 89, op := Go.Op.load 2 (Go.Operand.tmp 88), type := 2, pos := "laws.go:206", after := #[{ on := 7, ground := Go.Ground.data }, { on := 6, ground := Go.Ground.guard }], guard := some (6, true) }) (v := .int .i64 0) rfl (by kernel_rfl) (by kernel_rfl) (by kernel_rfl) (fun _ _ _ h => h) (Or.inl ⟨by rfl, by intro w hSw; (try dsimp only at hSw); go_simp⟩) (by assumption) ?_
              simp only [Act.put, List.setIfInBounds_toArray, List.set_cons_zero, List.set_cons_succ]
              refine wpAnyH_take (i := 9) (oi := { dst := some 90, op := Go.Op.binOp Go.BinOp.eql 2 (Go.Operand.tmp 89) (Go.Operand.const (Go.Value.int Go.IntKind.i64 0)) 2, type := 4, pos := "laws.go:206", after := #[{ on := 8, ground := Go.Ground.data }, { on := 6, ground := Go.Ground.guard }], guard := some (6, true) }) (v := .bool true) rfl (by kernel_rfl) (by kernel_rfl) (by kernel_rfl) (fun _ _ _ h => h) (Or.inl ⟨by rfl, by intro w hSw; (try dsimp only at hSw); go_simp⟩) (by assumption) ?_
              simp only [Act.put, List.setIfInBounds_toArray, List.set_cons_zero, List.set_cons_succ]
              refine wpAnyH_take (i := 10) (oi := { dst := some 91, op := Go.Op.pick (Go.Operand.tmp 87) (Go.Operand.tmp 90) (Go.Operand.const (Go.Value.bool false)), type := 4, pos := "laws.go:206", after := #[{ on := 6, ground := Go.Ground.data }, { on := 9, ground := Go.Ground.data }], guard := none }) (v := .bool true) rfl (by kernel_rfl) (by kernel_rfl) (by kernel_rfl) (fun _ _ _ h => h) (Or.inl ⟨by rfl, by intro w hSw; (try dsimp only at hSw); go_simp⟩) (by assumption) ?_
              simp only [Act.put, List.setIfInBounds_toArray, List.set_cons_zero, List.set_cons_succ]
              refine wpAnyH_take (i := 11) (oi := { dst := some 92, op := Go.Op.move (Go.Operand.tmp 91), type := 4, pos := "laws.go:206", after := #[{ on := 10, ground := Go.Ground.data }, { on := 6, ground := Go.Ground.chain }], guard := none }) (v := .bool true) rfl (by kernel_rfl) (by kernel_rfl) (by kernel_rfl) (fun _ _ _ h => h) (Or.inl ⟨by rfl, by intro w hSw; (try dsimp only at hSw); go_simp⟩) (by assumption) ?_
              simp only [Act.put, List.setIfInBounds_toArray, List.set_cons_zero, List.set_cons_succ]
              refine wpAnyH_take (i := 12) (oi := { dst := some 93, op := Go.Op.fieldAddr 33 (Go.Operand.tmp 7) 0, type := 0, pos := "laws.go:206", after := #[{ on := 11, ground := Go.Ground.guard }], guard := some (11, true) }) (v := .pointer (some ⟨w6.heap.size, 0, none⟩)) rfl (by kernel_rfl) (by kernel_rfl) (by kernel_rfl) (fun _ _ _ h => h) (Or.inl ⟨by rfl, by intro w hSw; (try dsimp only at hSw); go_simp⟩) (by assumption) ?_
              simp only [Act.put, List.setIfInBounds_toArray, List.set_cons_zero, List.set_cons_succ]
              refine wpAnyH_take (i := 13) (oi := { dst := some 94, op := Go.Op.load 2 (Go.Operand.tmp 93), type := 2, pos := "laws.go:206", after := #[{ on := 12, ground := Go.Ground.data }, { on := 11, ground := Go.Ground.guard }], guard := some (11, true) }) (v := .int .i64 0) rfl (by kernel_rfl) (by kernel_rfl) (by kernel_rfl) (fun _ _ _ h => h) (Or.inl ⟨by rfl, by intro w hSw; (try dsimp only at hSw); go_simp⟩) (by assumption) ?_
              simp only [Act.put, List.setIfInBounds_toArray, List.set_cons_zero, List.set_cons_succ]
              refine wpAnyH_take (i := 14) (oi := { dst := some 95, op := Go.Op.binOp Go.BinOp.eql 2 (Go.Operand.tmp 94) (Go.Operand.const (Go.Value.int Go.IntKind.i64 0)) 2, type := 4, pos := "laws.go:206", after := #[{ on := 13, ground := Go.Ground.data }, { on := 11, ground := Go.Ground.guard }], guard := some (11, true) }) (v := .bool true) rfl (by kernel_rfl) (by kernel_rfl) (by kernel_rfl) (fun _ _ _ h => h) (Or.inl ⟨by rfl, by intro w hSw; (try dsimp only at hSw); go_simp⟩) (by assumption) ?_
              simp only [Act.put, List.setIfInBounds_toArray, List.set_cons_zero, List.set_cons_succ]
              refine wpAnyH_take (i := 15) (oi := { dst := some 96, op := Go.Op.pick (Go.Operand.tmp 92) (Go.Operand.tmp 95) (Go.Operand.const (Go.Value.bool false)), type := 4, pos := "laws.go:206", after := #[{ on := 11, ground := Go.Ground.data }, { on := 14, ground := Go.Ground.data }], guard := none }) (v := .bool true) rfl (by kernel_rfl) (by kernel_rfl) (by kernel_rfl) (fun _ _ _ h => h) (Or.inl ⟨by rfl, by intro w hSw; (try dsimp only at hSw); go_simp⟩) (by assumption) ?_
              simp only [Act.put, List.setIfInBounds_toArray, List.set_cons_zero, List.set_cons_succ]
              refine wpAnyH_take (i := 16) (oi := { dst := some 97, op := Go.Op.move (Go.Operand.tmp 96), type := 4, pos := "laws.go:206", after := #[{ on := 15, ground := Go.Ground.data }, { on := 11, ground := Go.Ground.chain }], guard := none }) (v := .bool true) rfl (by kernel_rfl) (by kernel_rfl) (by kernel_rfl) (fun _ _ _ h => h) (Or.inl ⟨by rfl, by intro w hSw; (try dsimp only at hSw); go_simp⟩) (by assumption) ?_
              simp only [Act.put, List.setIfInBounds_toArray, List.set_cons_zero, List.set_cons_succ]
              refine wpAnyH_take (i := 17) (oi := { dst := some 98, op := Go.Op.move (Go.Operand.tmp 4), type := 25, pos := "laws.go:206", after := #[{ on := 16, ground := Go.Ground.guard }], guard := some (16, true) }) (v := .slice (some ⟨gv, ov, none⟩) xs.length cv) rfl (by kernel_rfl) (by kernel_rfl) (by kernel_rfl) (fun _ _ _ h => h) (Or.inl ⟨by rfl, by intro w hSw; (try dsimp only at hSw); go_simp⟩) (by assumption) ?_
              simp only [Act.put, List.setIfInBounds_toArray, List.set_cons_zero, List.set_cons_succ]
              refine wpAnyH_ready (rs := [18]) (by kernel_rfl) (by simp) ?_
              refine AllReadyH.cons (o := { dst := some 99, op := Go.Op.call { callee := Go.Callee.value (Go.Operand.func 12), args := #[Go.Operand.tmp 98], argTypes := #[25] }, type := 2, pos := "laws.go:206", after := #[{ on := 17, ground := Go.Ground.data }, { on := 16, ground := Go.Ground.chain }, { on := 16, ground := Go.Ground.guard }], guard := some (16, true) }) rfl (fun K hK => ?_) AllReadyH.nil
              go_simp
              go_at_call 12
              refine (HVFd.out).mono ?_
              rintro e wd ⟨rfl, hbx⟩
              have m0 := kept_cell hbx l2 z0
              have m1 := kept_cell hbx l2 z1
              have m2 := kept_cell hbx l4 z2
              have m3 := kept_cell hbx l4 z3
              have m4 := kept_cell hbx l6 z4
              have m5 := kept_cell hbx la z5
              have m6 := kept_cell hbx la z6'
              have l2m := Nat.lt_of_lt_of_le l2 hbx.size
              have l4m := Nat.lt_of_lt_of_le l4 hbx.size
              have l6m := Nat.lt_of_lt_of_le l6 hbx.size
              have lam := Nat.lt_of_lt_of_le la hbx.size
              have hm : Below wb.heap.size wb wd := hBd.trans (hbx.mono hBd.size)
              clear hbx
              go_wp2_with fail
              refine hK.out _ _ ⟨m0, m1, m2, m3, m4, m5, m6, hm⟩ (fun hHeld => ?_)
              clear hK K
              try simp only [Act.put, List.setIfInBounds_toArray, List.set_cons_zero, List.set_cons_succ]
              refine wpAnyH_take (i := 19) (oi := { dst := some 100, op := Go.Op.binOp Go.BinOp.eql 2 (Go.Operand.tmp 99) (Go.Operand.const (Go.Value.int Go.IntKind.i64 0)) 2, type := 4, pos := "laws.go:206", after := #[{ on := 18, ground := Go.Ground.data }, { on := 16, ground := Go.Ground.guard }], guard := some (16, true) }) (v := .bool true) rfl (by kernel_rfl) (by kernel_rfl) (by kernel_rfl) (fun _ _ _ h => h) (Or.inl ⟨by rfl, by intro w hSw; (try dsimp only at hSw); go_simp⟩) (by assumption) ?_
              simp only [Act.put, List.setIfInBounds_toArray, List.set_cons_zero, List.set_cons_succ]
              refine wpAnyH_take (i := 20) (oi := { dst := some 101, op := Go.Op.pick (Go.Operand.tmp 97) (Go.Operand.tmp 100) (Go.Operand.const (Go.Value.bool false)), type := 4, pos := "laws.go:206", after := #[{ on := 16, ground := Go.Ground.data }, { on := 19, ground := Go.Ground.data }], guard := none }) (v := .bool true) rfl (by kernel_rfl) (by kernel_rfl) (by kernel_rfl) (fun _ _ _ h => h) (Or.inl ⟨by rfl, by intro w hSw; (try dsimp only at hSw); go_simp⟩) (by assumption) ?_
              simp only [Act.put, List.setIfInBounds_toArray, List.set_cons_zero, List.set_cons_succ]
              refine wpAnyH_take (i := 21) (oi := { dst := some 102, op := Go.Op.move (Go.Operand.tmp 101), type := 4, pos := "laws.go:206", after := #[{ on := 20, ground := Go.Ground.data }, { on := 18, ground := Go.Ground.chain }], guard := none }) (v := .bool true) rfl (by kernel_rfl) (by kernel_rfl) (by kernel_rfl) (fun _ _ _ h => h) (Or.inl ⟨by rfl, by intro w hSw; (try dsimp only at hSw); go_simp⟩) (by assumption) ?_
              simp only [Act.put, List.setIfInBounds_toArray, List.set_cons_zero, List.set_cons_succ]
              refine wpAnyH_take (i := 22) (oi := { dst := some 103, op := Go.Op.load 29 (Go.Operand.tmp 5), type := 29, pos := "laws.go:206", after := #[{ on := 21, ground := Go.Ground.guard }], guard := some (21, true) }) (v := .agg #[.int .i64 rc, .int .i64 1]) rfl (by kernel_rfl) (by kernel_rfl) (by kernel_rfl) (fun _ _ _ h => h) (Or.inl ⟨by rfl, by intro w hSw; (try dsimp only at hSw); go_simp⟩) (by assumption) ?_
              simp only [Act.put, List.setIfInBounds_toArray, List.set_cons_zero, List.set_cons_succ]
              refine wpAnyH_take (i := 23) (oi := { dst := some 104, op := Go.Op.move (Go.Operand.tmp 3), type := 24, pos := "laws.go:206", after := #[{ on := 21, ground := Go.Ground.guard }], guard := some (21, true) }) (v := .slice au ns.length cu) rfl (by kernel_rfl) (by kernel_rfl) (by kernel_rfl) (fun _ _ _ h => h) (Or.inl ⟨by rfl, by intro w hSw; (try dsimp only at hSw); go_simp⟩) (by assumption) ?_
              simp only [Act.put, List.setIfInBounds_toArray, List.set_cons_zero, List.set_cons_succ]
              refine wpAnyH_take (i := 24) (oi := { dst := some 105, op := Go.Op.move (Go.Operand.tmp 4), type := 25, pos := "laws.go:206", after := #[{ on := 21, ground := Go.Ground.guard }], guard := some (21, true) }) (v := .slice (some ⟨gv, ov, none⟩) xs.length cv) rfl (by kernel_rfl) (by kernel_rfl) (by kernel_rfl) (fun _ _ _ h => h) (Or.inl ⟨by rfl, by intro w hSw; (try dsimp only at hSw); go_simp⟩) (by assumption) ?_
              simp only [Act.put, List.setIfInBounds_toArray, List.set_cons_zero, List.set_cons_succ]
              refine wpAnyH_ready (rs := [25]) (by kernel_rfl) (by simp) ?_
              refine AllReadyH.cons (o := { dst := some 106, op := Go.Op.call { callee := Go.Callee.value (Go.Operand.func 8), args := #[Go.Operand.tmp 104, Go.Operand.tmp 105], argTypes := #[24, 25] }, type := 29, pos := "laws.go:206", after := #[{ on := 23, ground := Go.Ground.data }, { on := 24, ground := Go.Ground.data }, { on := 21, ground := Go.Ground.chain }, { on := 21, ground := Go.Ground.guard }], guard := some (21, true) }) rfl (fun K hK => ?_) AllReadyH.nil
              go_simp
              go_at_call 8
              refine (HSE.out _ (HBb.out.trans (hm.mono HBb.out.size))).mono ?_
              rintro e wf ⟨rfl, hbx⟩
              have n0 := kept_cell hbx l2m m0
              have n1 := kept_cell hbx l2m m1
              have n2 := kept_cell hbx l4m m2
              have n3 := kept_cell hbx l4m m3
              have n4 := kept_cell hbx l6m m4
              have n5 := kept_cell hbx lam m5
              have n6 := kept_cell hbx lam m6
              have l2n := Nat.lt_of_lt_of_le l2m hbx.size
              have l4n := Nat.lt_of_lt_of_le l4m hbx.size
              have l6n := Nat.lt_of_lt_of_le l6m hbx.size
              have lan := Nat.lt_of_lt_of_le lam hbx.size
              have hn : Below wb.heap.size wb wf := hm.trans (hbx.mono hm.size)
              clear hbx
              go_wp2_with fail
              refine hK.out _ _ ⟨n0, n1, n2, n3, n4, n5, n6, hn⟩ (fun hHeld => ?_)
              clear hK K
              try simp only [Act.put, List.setIfInBounds_toArray, List.set_cons_zero, List.set_cons_succ]
              refine wpAnyH_take (i := 26) (oi := { dst := some 107, op := Go.Op.binOp Go.BinOp.eql 29 (Go.Operand.tmp 103) (Go.Operand.tmp 106) 29, type := 4, pos := "laws.go:206", after := #[{ on := 22, ground := Go.Ground.data }, { on := 25, ground := Go.Ground.data }, { on := 21, ground := Go.Ground.guard }], guard := some (21, true) }) (v := .bool true) rfl (by kernel_rfl) (by kernel_rfl) (by kernel_rfl) (fun _ _ _ h => h) (Or.inl ⟨by rfl, by intro w hSw; (try dsimp only at hSw); go_simp⟩) (by assumption) ?_
              simp only [Act.put, List.setIfInBounds_toArray, List.set_cons_zero, List.set_cons_succ]
              refine wpAnyH_take (i := 27) (oi := { dst := some 108, op := Go.Op.pick (Go.Operand.tmp 102) (Go.Operand.tmp 107) (Go.Operand.const (Go.Value.bool false)), type := 4, pos := "laws.go:206", after := #[{ on := 21, ground := Go.Ground.data }, { on := 26, ground := Go.Ground.data }], guard := none }) (v := .bool true) rfl (by kernel_rfl) (by kernel_rfl) (by kernel_rfl) (fun _ _ _ h => h) (Or.inl ⟨by rfl, by intro w hSw; (try dsimp only at hSw); go_simp⟩) (by assumption) ?_
              simp only [Act.put, List.setIfInBounds_toArray, List.set_cons_zero, List.set_cons_succ]
              refine wpAnyH_take (i := 28) (oi := { dst := some 109, op := Go.Op.move (Go.Operand.tmp 108), type := 4, pos := "laws.go:206", after := #[{ on := 27, ground := Go.Ground.data }, { on := 25, ground := Go.Ground.chain }], guard := none }) (v := .bool true) rfl (by kernel_rfl) (by kernel_rfl) (by kernel_rfl) (fun _ _ _ h => h) (Or.inl ⟨by rfl, by intro w hSw; (try dsimp only at hSw); go_simp⟩) (by assumption) ?_
              simp only [Act.put, List.setIfInBounds_toArray, List.set_cons_zero, List.set_cons_succ]
              refine wpAnyH_take (i := 29) (oi := { dst := some 110, op := Go.Op.fieldAddr 29 (Go.Operand.tmp 6) 1, type := 0, pos := "laws.go:206", after := #[{ on := 28, ground := Go.Ground.guard }], guard := some (28, true) }) (v := .pointer (some ⟨w4.heap.size, 1, none⟩)) rfl (by kernel_rfl) (by kernel_rfl) (by kernel_rfl) (fun _ _ _ h => h) (Or.inl ⟨by rfl, by intro w hSw; (try dsimp only at hSw); go_simp⟩) (by assumption) ?_
              simp only [Act.put, List.setIfInBounds_toArray, List.set_cons_zero, List.set_cons_succ]
              refine wpAnyH_take (i := 30) (oi := { dst := some 111, op := Go.Op.load 2 (Go.Operand.tmp 110), type := 2, pos := "laws.go:206", after := #[{ on := 29, ground := Go.Ground.data }, { on := 28, ground := Go.Ground.guard }], guard := some (28, true) }) (v := .int .i64 2) rfl (by kernel_rfl) (by kernel_rfl) (by kernel_rfl) (fun _ _ _ h => h) (Or.inl ⟨by rfl, by intro w hSw; (try dsimp only at hSw); go_simp⟩) (by assumption) ?_
              simp only [Act.put, List.setIfInBounds_toArray, List.set_cons_zero, List.set_cons_succ]
              refine wpAnyH_take (i := 31) (oi := { dst := some 112, op := Go.Op.binOp Go.BinOp.neq 2 (Go.Operand.tmp 111) (Go.Operand.const (Go.Value.int Go.IntKind.i64 2)) 2, type := 4, pos := "laws.go:206", after := #[{ on := 30, ground := Go.Ground.data }, { on := 28, ground := Go.Ground.guard }], guard := some (28, true) }) (v := .bool false) rfl (by kernel_rfl) (by kernel_rfl) (by kernel_rfl) (fun _ _ _ h => h) (Or.inl ⟨by rfl, by intro w hSw; (try dsimp only at hSw); go_simp⟩) (by assumption) ?_
              simp only [Act.put, List.setIfInBounds_toArray, List.set_cons_zero, List.set_cons_succ]
              refine wpAnyH_take (i := 32) (oi := { dst := some 113, op := Go.Op.move (Go.Operand.tmp 112), type := 4, pos := "laws.go:206", after := #[{ on := 31, ground := Go.Ground.data }, { on := 28, ground := Go.Ground.chain }, { on := 28, ground := Go.Ground.guard }], guard := some (28, true) }) (v := .bool false) rfl (by kernel_rfl) (by kernel_rfl) (by kernel_rfl) (fun _ _ _ h => h) (Or.inl ⟨by rfl, by intro w hSw; (try dsimp only at hSw); go_simp⟩) (by assumption) ?_
              simp only [Act.put, List.setIfInBounds_toArray, List.set_cons_zero, List.set_cons_succ]
              refine wpAnyH_take (i := 33) (oi := { dst := some 114, op := Go.Op.fieldAddr 29 (Go.Operand.tmp 5) 1, type := 0, pos := "laws.go:206", after := #[{ on := 32, ground := Go.Ground.guard }], guard := some (32, false) }) (v := .pointer (some ⟨w2.heap.size, 1, none⟩)) rfl (by kernel_rfl) (by kernel_rfl) (by kernel_rfl) (fun _ _ _ h => h) (Or.inl ⟨by rfl, by intro w hSw; (try dsimp only at hSw); go_simp⟩) (by assumption) ?_
              simp only [Act.put, List.setIfInBounds_toArray, List.set_cons_zero, List.set_cons_succ]
              refine wpAnyH_take (i := 34) (oi := { dst := some 115, op := Go.Op.load 2 (Go.Operand.tmp 114), type := 2, pos := "laws.go:206", after := #[{ on := 33, ground := Go.Ground.data }, { on := 32, ground := Go.Ground.guard }], guard := some (32, false) }) (v := .int .i64 1) rfl (by kernel_rfl) (by kernel_rfl) (by kernel_rfl) (fun _ _ _ h => h) (Or.inl ⟨by rfl, by intro w hSw; (try dsimp only at hSw); go_simp⟩) (by assumption) ?_
              simp only [Act.put, List.setIfInBounds_toArray, List.set_cons_zero, List.set_cons_succ]
              refine wpAnyH_take (i := 35) (oi := { dst := some 116, op := Go.Op.binOp Go.BinOp.eql 2 (Go.Operand.tmp 115) (Go.Operand.const (Go.Value.int Go.IntKind.i64 0)) 2, type := 4, pos := "laws.go:206", after := #[{ on := 34, ground := Go.Ground.data }, { on := 32, ground := Go.Ground.guard }], guard := some (32, false) }) (v := .bool false) rfl (by kernel_rfl) (by kernel_rfl) (by kernel_rfl) (fun _ _ _ h => h) (Or.inl ⟨by rfl, by intro w hSw; (try dsimp only at hSw); go_simp⟩) (by assumption) ?_
              simp only [Act.put, List.setIfInBounds_toArray, List.set_cons_zero, List.set_cons_succ]
              refine wpAnyH_take (i := 36) (oi := { dst := some 117, op := Go.Op.pick (Go.Operand.tmp 113) (Go.Operand.const (Go.Value.bool true)) (Go.Operand.tmp 116), type := 4, pos := "laws.go:206", after := #[{ on := 32, ground := Go.Ground.data }, { on := 35, ground := Go.Ground.data }, { on := 28, ground := Go.Ground.guard }], guard := some (28, true) }) (v := .bool false) rfl (by kernel_rfl) (by kernel_rfl) (by kernel_rfl) (fun _ _ _ h => h) (Or.inl ⟨by rfl, by intro w hSw; (try dsimp only at hSw); go_simp⟩) (by assumption) ?_
              simp only [Act.put, List.setIfInBounds_toArray, List.set_cons_zero, List.set_cons_succ]
              refine wpAnyH_take (i := 37) (oi := { dst := some 118, op := Go.Op.move (Go.Operand.tmp 117), type := 4, pos := "laws.go:206", after := #[{ on := 36, ground := Go.Ground.data }, { on := 32, ground := Go.Ground.chain }, { on := 28, ground := Go.Ground.guard }], guard := some (28, true) }) (v := .bool false) rfl (by kernel_rfl) (by kernel_rfl) (by kernel_rfl) (fun _ _ _ h => h) (Or.inl ⟨by rfl, by intro w hSw; (try dsimp only at hSw); go_simp⟩) (by assumption) ?_
              simp only [Act.put, List.setIfInBounds_toArray, List.set_cons_zero, List.set_cons_succ]
              refine wpAnyH_take (i := 38) (oi := { dst := some 119, op := Go.Op.fieldAddr 29 (Go.Operand.tmp 5) 1, type := 0, pos := "laws.go:206", after := #[{ on := 37, ground := Go.Ground.guard }], guard := some (37, false) }) (v := .pointer (some ⟨w2.heap.size, 1, none⟩)) rfl (by kernel_rfl) (by kernel_rfl) (by kernel_rfl) (fun _ _ _ h => h) (Or.inl ⟨by rfl, by intro w hSw; (try dsimp only at hSw); go_simp⟩) (by assumption) ?_
              simp only [Act.put, List.setIfInBounds_toArray, List.set_cons_zero, List.set_cons_succ]
              refine wpAnyH_take (i := 39) (oi := { dst := some 120, op := Go.Op.load 2 (Go.Operand.tmp 119), type := 2, pos := "laws.go:206", after := #[{ on := 38, ground := Go.Ground.data }, { on := 37, ground := Go.Ground.guard }], guard := some (37, false) }) (v := .int .i64 1) rfl (by kernel_rfl) (by kernel_rfl) (by kernel_rfl) (fun _ _ _ h => h) (Or.inl ⟨by rfl, by intro w hSw; (try dsimp only at hSw); go_simp⟩) (by assumption) ?_
              simp only [Act.put, List.setIfInBounds_toArray, List.set_cons_zero, List.set_cons_succ]
              refine wpAnyH_take (i := 40) (oi := { dst := some 121, op := Go.Op.binOp Go.BinOp.eql 2 (Go.Operand.tmp 120) (Go.Operand.const (Go.Value.int Go.IntKind.i64 1)) 2, type := 4, pos := "laws.go:206", after := #[{ on := 39, ground := Go.Ground.data }, { on := 37, ground := Go.Ground.guard }], guard := some (37, false) }) (v := .bool true) rfl (by kernel_rfl) (by kernel_rfl) (by kernel_rfl) (fun _ _ _ h => h) (Or.inl ⟨by rfl, by intro w hSw; (try dsimp only at hSw); go_simp⟩) (by assumption) ?_
              simp only [Act.put, List.setIfInBounds_toArray, List.set_cons_zero, List.set_cons_succ]
              refine wpAnyH_take (i := 41) (oi := { dst := some 122, op := Go.Op.pick (Go.Operand.tmp 118) (Go.Operand.const (Go.Value.bool true)) (Go.Operand.tmp 121), type := 4, pos := "laws.go:206", after := #[{ on := 37, ground := Go.Ground.data }, { on := 40, ground := Go.Ground.data }, { on := 28, ground := Go.Ground.guard }], guard := some (28, true) }) (v := .bool true) rfl (by kernel_rfl) (by kernel_rfl) (by kernel_rfl) (fun _ _ _ h => h) (Or.inl ⟨by rfl, by intro w hSw; (try dsimp only at hSw); go_simp⟩) (by assumption) ?_
              simp only [Act.put, List.setIfInBounds_toArray, List.set_cons_zero, List.set_cons_succ]
              refine wpAnyH_take (i := 42) (oi := { dst := some 123, op := Go.Op.pick (Go.Operand.tmp 109) (Go.Operand.tmp 122) (Go.Operand.const (Go.Value.bool false)), type := 4, pos := "laws.go:206", after := #[{ on := 28, ground := Go.Ground.data }, { on := 41, ground := Go.Ground.data }], guard := none }) (v := .bool true) rfl (by kernel_rfl) (by kernel_rfl) (by kernel_rfl) (fun _ _ _ h => h) (Or.inl ⟨by rfl, by intro w hSw; (try dsimp only at hSw); go_simp⟩) (by assumption) ?_
              simp only [Act.put, List.setIfInBounds_toArray, List.set_cons_zero, List.set_cons_succ]
              refine wpAnyH_take (i := 43) (oi := { dst := some 2, op := Go.Op.assign (Go.Operand.tmp 123), type := 4, pos := "laws.go:206", after := #[{ on := 42, ground := Go.Ground.data }, { on := 37, ground := Go.Ground.chain }, { on := 0, ground := Go.Ground.phase }, { on := 1, ground := Go.Ground.phase }, { on := 2, ground := Go.Ground.phase }, { on := 3, ground := Go.Ground.phase }, { on := 4, ground := Go.Ground.phase }, { on := 5, ground := Go.Ground.phase }, { on := 6, ground := Go.Ground.phase }, { on := 7, ground := Go.Ground.phase }, { on := 8, ground := Go.Ground.phase }, { on := 9, ground := Go.Ground.phase }, { on := 10, ground := Go.Ground.phase }, { on := 11, ground := Go.Ground.phase }, { on := 12, ground := Go.Ground.phase }, { on := 13, ground := Go.Ground.phase }, { on := 14, ground := Go.Ground.phase }, { on := 15, ground := Go.Ground.phase }, { on := 16, ground := Go.Ground.phase }, { on := 17, ground := Go.Ground.phase }, { on := 18, ground := Go.Ground.phase }, { on := 19, ground := Go.Ground.phase }, { on := 20, ground := Go.Ground.phase }, { on := 21, ground := Go.Ground.phase }, { on := 22, ground := Go.Ground.phase }, { on := 23, ground := Go.Ground.phase }, { on := 24, ground := Go.Ground.phase }, { on := 25, ground := Go.Ground.phase }, { on := 26, ground := Go.Ground.phase }, { on := 27, ground := Go.Ground.phase }, { on := 28, ground := Go.Ground.phase }, { on := 29, ground := Go.Ground.phase }, { on := 30, ground := Go.Ground.phase }, { on := 31, ground := Go.Ground.phase }, { on := 32, ground := Go.Ground.phase }, { on := 33, ground := Go.Ground.phase }, { on := 34, ground := Go.Ground.phase }, { on := 35, ground := Go.Ground.phase }, { on := 36, ground := Go.Ground.phase }, { on := 37, ground := Go.Ground.phase }, { on := 38, ground := Go.Ground.phase }, { on := 39, ground := Go.Ground.phase }, { on := 40, ground := Go.Ground.phase }, { on := 41, ground := Go.Ground.phase }, { on := 42, ground := Go.Ground.phase }], guard := none }) (v := .bool true) rfl (by kernel_rfl) (by kernel_rfl) (by kernel_rfl) (fun _ _ _ h => h) (Or.inl ⟨by rfl, by intro w hSw; (try dsimp only at hSw); go_simp⟩) (by assumption) ?_
              simp only [Act.put, List.setIfInBounds_toArray, List.set_cons_zero, List.set_cons_succ]
              refine wpAnyH_done (by kernel_rfl) ?_ _
              go_wp2
              go_ret
              exact ⟨rfl, HB1.out.trans ((HBb.out.trans (hn.mono HBb.out.size)).mono HB1.out.size)⟩
          · have btv : (tv != 2) = true := bne_iff_ne.2 htv
            refine wp_region_held_drew (S := fun wx => wx.cell? ⟨w2.heap.size, 0, none⟩ = some (.int .i64 rc) ∧ wx.cell? ⟨w2.heap.size, 1, none⟩ = some (.int .i64 rv) ∧ wx.cell? ⟨w4.heap.size, 0, none⟩ = some (.int .i64 0) ∧ wx.cell? ⟨w4.heap.size, 1, none⟩ = some (.int .i64 tv) ∧ wx.cell? ⟨w6.heap.size, 0, none⟩ = some (.int .i64 0) ∧ wx.cell? ⟨wa.heap.size, 0, none⟩ = some (.int .i64 rc) ∧ wx.cell? ⟨wa.heap.size, 1, none⟩ = some (.int .i64 rv) ∧ Below wb.heap.size wb wx) (by kernel_rfl) ⟨z0, z1, z2, z3, z4, z5, z6', hBd⟩ (fun hHeld => ?_)
            refine wpAnyH_take (i := 0) (oi := { dst := some 81, op := Go.Op.load 29 (Go.Operand.tmp 10), type := 29, pos := "laws.go:206", after := #[], guard := none }) (v := .agg #[.int .i64 rc, .int .i64 rv]) rfl (by kernel_rfl) (by kernel_rfl) (by kernel_rfl) (fun _ _ _ h => h) (Or.inl ⟨by rfl, by intro w hSw; (try dsimp only at hSw); go_simp⟩) (by assumption) ?_
            simp only [Act.put, List.setIfInBounds_toArray, List.set_cons_zero, List.set_cons_succ]
            refine wpAnyH_take (i := 1) (oi := { dst := some 82, op := Go.Op.load 29 (Go.Operand.tmp 5), type := 29, pos := "laws.go:206", after := #[], guard := none }) (v := .agg #[.int .i64 rc, .int .i64 rv]) rfl (by kernel_rfl) (by kernel_rfl) (by kernel_rfl) (fun _ _ _ h => h) (Or.inl ⟨by rfl, by intro w hSw; (try dsimp only at hSw); go_simp⟩) (by assumption) ?_
            simp only [Act.put, List.setIfInBounds_toArray, List.set_cons_zero, List.set_cons_succ]
            refine wpAnyH_take (i := 2) (oi := { dst := some 83, op := Go.Op.binOp Go.BinOp.eql 29 (Go.Operand.tmp 81) (Go.Operand.tmp 82) 29, type := 4, pos := "laws.go:206", after := #[{ on := 0, ground := Go.Ground.data }, { on := 1, ground := Go.Ground.data }], guard := none }) (v := .bool true) rfl (by kernel_rfl) (by kernel_rfl) (by kernel_rfl) (fun _ _ _ h => h) (Or.inl ⟨by rfl, by intro w hSw; (try dsimp only at hSw); go_simp⟩) (by assumption) ?_
            simp only [Act.put, List.setIfInBounds_toArray, List.set_cons_zero, List.set_cons_succ]
            refine wpAnyH_take (i := 3) (oi := { dst := some 84, op := Go.Op.move (Go.Operand.tmp 83), type := 4, pos := "laws.go:206", after := #[{ on := 2, ground := Go.Ground.data }], guard := none }) (v := .bool true) rfl (by kernel_rfl) (by kernel_rfl) (by kernel_rfl) (fun _ _ _ h => h) (Or.inl ⟨by rfl, by intro w hSw; (try dsimp only at hSw); go_simp⟩) (by assumption) ?_
            simp only [Act.put, List.setIfInBounds_toArray, List.set_cons_zero, List.set_cons_succ]
            refine wpAnyH_take (i := 4) (oi := { dst := some 85, op := Go.Op.move (Go.Operand.tmp 11), type := 4, pos := "laws.go:206", after := #[{ on := 3, ground := Go.Ground.guard }], guard := some (3, true) }) (v := .bool true) rfl (by kernel_rfl) (by kernel_rfl) (by kernel_rfl) (fun _ _ _ h => h) (Or.inl ⟨by rfl, by intro w hSw; (try dsimp only at hSw); go_simp⟩) (by assumption) ?_
            simp only [Act.put, List.setIfInBounds_toArray, List.set_cons_zero, List.set_cons_succ]
            refine wpAnyH_take (i := 5) (oi := { dst := some 86, op := Go.Op.pick (Go.Operand.tmp 84) (Go.Operand.tmp 85) (Go.Operand.const (Go.Value.bool false)), type := 4, pos := "laws.go:206", after := #[{ on := 3, ground := Go.Ground.data }, { on := 4, ground := Go.Ground.data }], guard := none }) (v := .bool true) rfl (by kernel_rfl) (by kernel_rfl) (by kernel_rfl) (fun _ _ _ h => h) (Or.inl ⟨by rfl, by intro w hSw; (try dsimp only at hSw); go_simp⟩) (by assumption) ?_
            simp only [Act.put, List.setIfInBounds_toArray, List.set_cons_zero, List.set_cons_succ]
            refine wpAnyH_take (i := 6) (oi := { dst := some 87, op := Go.Op.move (Go.Operand.tmp 86), type := 4, pos := "laws.go:206", after := #[{ on := 5, ground := Go.Ground.data }, { on := 3, ground := Go.Ground.chain }], guard := none }) (v := .bool true) rfl (by kernel_rfl) (by kernel_rfl) (by kernel_rfl) (fun _ _ _ h => h) (Or.inl ⟨by rfl, by intro w hSw; (try dsimp only at hSw); go_simp⟩) (by assumption) ?_
            simp only [Act.put, List.setIfInBounds_toArray, List.set_cons_zero, List.set_cons_succ]
            refine wpAnyH_take (i := 7) (oi := { dst := some 88, op := Go.Op.fieldAddr 29 (Go.Operand.tmp 6) 0, type := 0, pos := "laws.go:206", after := #[{ on := 6, ground := Go.Ground.guard }], guard := some (6, true) }) (v := .pointer (some ⟨w4.heap.size, 0, none⟩)) rfl (by kernel_rfl) (by kernel_rfl) (by kernel_rfl) (fun _ _ _ h => h) (Or.inl ⟨by rfl, by intro w hSw; (try dsimp only at hSw); go_simp⟩) (by assumption) ?_
            simp only [Act.put, List.setIfInBounds_toArray, List.set_cons_zero, List.set_cons_succ]
            refine wpAnyH_take (i := 8) (oi := { dst := some 89, op := Go.Op.load 2 (Go.Operand.tmp 88), type := 2, pos := "laws.go:206", after := #[{ on := 7, ground := Go.Ground.data }, { on := 6, ground := Go.Ground.guard }], guard := some (6, true) }) (v := .int .i64 0) rfl (by kernel_rfl) (by kernel_rfl) (by kernel_rfl) (fun _ _ _ h => h) (Or.inl ⟨by rfl, by intro w hSw; (try dsimp only at hSw); go_simp⟩) (by assumption) ?_
            simp only [Act.put, List.setIfInBounds_toArray, List.set_cons_zero, List.set_cons_succ]
            refine wpAnyH_take (i := 9) (oi := { dst := some 90, op := Go.Op.binOp Go.BinOp.eql 2 (Go.Operand.tmp 89) (Go.Operand.const (Go.Value.int Go.IntKind.i64 0)) 2, type := 4, pos := "laws.go:206", after := #[{ on := 8, ground := Go.Ground.data }, { on := 6, ground := Go.Ground.guard }], guard := some (6, true) }) (v := .bool true) rfl (by kernel_rfl) (by kernel_rfl) (by kernel_rfl) (fun _ _ _ h => h) (Or.inl ⟨by rfl, by intro w hSw; (try dsimp only at hSw); go_simp⟩) (by assumption) ?_
            simp only [Act.put, List.setIfInBounds_toArray, List.set_cons_zero, List.set_cons_succ]
            refine wpAnyH_take (i := 10) (oi := { dst := some 91, op := Go.Op.pick (Go.Operand.tmp 87) (Go.Operand.tmp 90) (Go.Operand.const (Go.Value.bool false)), type := 4, pos := "laws.go:206", after := #[{ on := 6, ground := Go.Ground.data }, { on := 9, ground := Go.Ground.data }], guard := none }) (v := .bool true) rfl (by kernel_rfl) (by kernel_rfl) (by kernel_rfl) (fun _ _ _ h => h) (Or.inl ⟨by rfl, by intro w hSw; (try dsimp only at hSw); go_simp⟩) (by assumption) ?_
            simp only [Act.put, List.setIfInBounds_toArray, List.set_cons_zero, List.set_cons_succ]
            refine wpAnyH_take (i := 11) (oi := { dst := some 92, op := Go.Op.move (Go.Operand.tmp 91), type := 4, pos := "laws.go:206", after := #[{ on := 10, ground := Go.Ground.data }, { on := 6, ground := Go.Ground.chain }], guard := none }) (v := .bool true) rfl (by kernel_rfl) (by kernel_rfl) (by kernel_rfl) (fun _ _ _ h => h) (Or.inl ⟨by rfl, by intro w hSw; (try dsimp only at hSw); go_simp⟩) (by assumption) ?_
            simp only [Act.put, List.setIfInBounds_toArray, List.set_cons_zero, List.set_cons_succ]
            refine wpAnyH_take (i := 12) (oi := { dst := some 93, op := Go.Op.fieldAddr 33 (Go.Operand.tmp 7) 0, type := 0, pos := "laws.go:206", after := #[{ on := 11, ground := Go.Ground.guard }], guard := some (11, true) }) (v := .pointer (some ⟨w6.heap.size, 0, none⟩)) rfl (by kernel_rfl) (by kernel_rfl) (by kernel_rfl) (fun _ _ _ h => h) (Or.inl ⟨by rfl, by intro w hSw; (try dsimp only at hSw); go_simp⟩) (by assumption) ?_
            simp only [Act.put, List.setIfInBounds_toArray, List.set_cons_zero, List.set_cons_succ]
            refine wpAnyH_take (i := 13) (oi := { dst := some 94, op := Go.Op.load 2 (Go.Operand.tmp 93), type := 2, pos := "laws.go:206", after := #[{ on := 12, ground := Go.Ground.data }, { on := 11, ground := Go.Ground.guard }], guard := some (11, true) }) (v := .int .i64 0) rfl (by kernel_rfl) (by kernel_rfl) (by kernel_rfl) (fun _ _ _ h => h) (Or.inl ⟨by rfl, by intro w hSw; (try dsimp only at hSw); go_simp⟩) (by assumption) ?_
            simp only [Act.put, List.setIfInBounds_toArray, List.set_cons_zero, List.set_cons_succ]
            refine wpAnyH_take (i := 14) (oi := { dst := some 95, op := Go.Op.binOp Go.BinOp.eql 2 (Go.Operand.tmp 94) (Go.Operand.const (Go.Value.int Go.IntKind.i64 0)) 2, type := 4, pos := "laws.go:206", after := #[{ on := 13, ground := Go.Ground.data }, { on := 11, ground := Go.Ground.guard }], guard := some (11, true) }) (v := .bool true) rfl (by kernel_rfl) (by kernel_rfl) (by kernel_rfl) (fun _ _ _ h => h) (Or.inl ⟨by rfl, by intro w hSw; (try dsimp only at hSw); go_simp⟩) (by assumption) ?_
            simp only [Act.put, List.setIfInBounds_toArray, List.set_cons_zero, List.set_cons_succ]
            refine wpAnyH_take (i := 15) (oi := { dst := some 96, op := Go.Op.pick (Go.Operand.tmp 92) (Go.Operand.tmp 95) (Go.Operand.const (Go.Value.bool false)), type := 4, pos := "laws.go:206", after := #[{ on := 11, ground := Go.Ground.data }, { on := 14, ground := Go.Ground.data }], guard := none }) (v := .bool true) rfl (by kernel_rfl) (by kernel_rfl) (by kernel_rfl) (fun _ _ _ h => h) (Or.inl ⟨by rfl, by intro w hSw; (try dsimp only at hSw); go_simp⟩) (by assumption) ?_
            simp only [Act.put, List.setIfInBounds_toArray, List.set_cons_zero, List.set_cons_succ]
            refine wpAnyH_take (i := 16) (oi := { dst := some 97, op := Go.Op.move (Go.Operand.tmp 96), type := 4, pos := "laws.go:206", after := #[{ on := 15, ground := Go.Ground.data }, { on := 11, ground := Go.Ground.chain }], guard := none }) (v := .bool true) rfl (by kernel_rfl) (by kernel_rfl) (by kernel_rfl) (fun _ _ _ h => h) (Or.inl ⟨by rfl, by intro w hSw; (try dsimp only at hSw); go_simp⟩) (by assumption) ?_
            simp only [Act.put, List.setIfInBounds_toArray, List.set_cons_zero, List.set_cons_succ]
            refine wpAnyH_take (i := 17) (oi := { dst := some 98, op := Go.Op.move (Go.Operand.tmp 4), type := 25, pos := "laws.go:206", after := #[{ on := 16, ground := Go.Ground.guard }], guard := some (16, true) }) (v := .slice (some ⟨gv, ov, none⟩) xs.length cv) rfl (by kernel_rfl) (by kernel_rfl) (by kernel_rfl) (fun _ _ _ h => h) (Or.inl ⟨by rfl, by intro w hSw; (try dsimp only at hSw); go_simp⟩) (by assumption) ?_
            simp only [Act.put, List.setIfInBounds_toArray, List.set_cons_zero, List.set_cons_succ]
            refine wpAnyH_ready (rs := [18]) (by kernel_rfl) (by simp) ?_
            refine AllReadyH.cons (o := { dst := some 99, op := Go.Op.call { callee := Go.Callee.value (Go.Operand.func 12), args := #[Go.Operand.tmp 98], argTypes := #[25] }, type := 2, pos := "laws.go:206", after := #[{ on := 17, ground := Go.Ground.data }, { on := 16, ground := Go.Ground.chain }, { on := 16, ground := Go.Ground.guard }], guard := some (16, true) }) rfl (fun K hK => ?_) AllReadyH.nil
            go_simp
            go_at_call 12
            refine (HVFd.out).mono ?_
            rintro e wd ⟨rfl, hbx⟩
            have m0 := kept_cell hbx l2 z0
            have m1 := kept_cell hbx l2 z1
            have m2 := kept_cell hbx l4 z2
            have m3 := kept_cell hbx l4 z3
            have m4 := kept_cell hbx l6 z4
            have m5 := kept_cell hbx la z5
            have m6 := kept_cell hbx la z6'
            have l2m := Nat.lt_of_lt_of_le l2 hbx.size
            have l4m := Nat.lt_of_lt_of_le l4 hbx.size
            have l6m := Nat.lt_of_lt_of_le l6 hbx.size
            have lam := Nat.lt_of_lt_of_le la hbx.size
            have hm : Below wb.heap.size wb wd := hBd.trans (hbx.mono hBd.size)
            clear hbx
            go_wp2_with fail
            refine hK.out _ _ ⟨m0, m1, m2, m3, m4, m5, m6, hm⟩ (fun hHeld => ?_)
            clear hK K
            try simp only [Act.put, List.setIfInBounds_toArray, List.set_cons_zero, List.set_cons_succ]
            refine wpAnyH_take (i := 19) (oi := { dst := some 100, op := Go.Op.binOp Go.BinOp.eql 2 (Go.Operand.tmp 99) (Go.Operand.const (Go.Value.int Go.IntKind.i64 0)) 2, type := 4, pos := "laws.go:206", after := #[{ on := 18, ground := Go.Ground.data }, { on := 16, ground := Go.Ground.guard }], guard := some (16, true) }) (v := .bool true) rfl (by kernel_rfl) (by kernel_rfl) (by kernel_rfl) (fun _ _ _ h => h) (Or.inl ⟨by rfl, by intro w hSw; (try dsimp only at hSw); go_simp⟩) (by assumption) ?_
            simp only [Act.put, List.setIfInBounds_toArray, List.set_cons_zero, List.set_cons_succ]
            refine wpAnyH_take (i := 20) (oi := { dst := some 101, op := Go.Op.pick (Go.Operand.tmp 97) (Go.Operand.tmp 100) (Go.Operand.const (Go.Value.bool false)), type := 4, pos := "laws.go:206", after := #[{ on := 16, ground := Go.Ground.data }, { on := 19, ground := Go.Ground.data }], guard := none }) (v := .bool true) rfl (by kernel_rfl) (by kernel_rfl) (by kernel_rfl) (fun _ _ _ h => h) (Or.inl ⟨by rfl, by intro w hSw; (try dsimp only at hSw); go_simp⟩) (by assumption) ?_
            simp only [Act.put, List.setIfInBounds_toArray, List.set_cons_zero, List.set_cons_succ]
            refine wpAnyH_take (i := 21) (oi := { dst := some 102, op := Go.Op.move (Go.Operand.tmp 101), type := 4, pos := "laws.go:206", after := #[{ on := 20, ground := Go.Ground.data }, { on := 18, ground := Go.Ground.chain }], guard := none }) (v := .bool true) rfl (by kernel_rfl) (by kernel_rfl) (by kernel_rfl) (fun _ _ _ h => h) (Or.inl ⟨by rfl, by intro w hSw; (try dsimp only at hSw); go_simp⟩) (by assumption) ?_
            simp only [Act.put, List.setIfInBounds_toArray, List.set_cons_zero, List.set_cons_succ]
            refine wpAnyH_take (i := 22) (oi := { dst := some 103, op := Go.Op.load 29 (Go.Operand.tmp 5), type := 29, pos := "laws.go:206", after := #[{ on := 21, ground := Go.Ground.guard }], guard := some (21, true) }) (v := .agg #[.int .i64 rc, .int .i64 rv]) rfl (by kernel_rfl) (by kernel_rfl) (by kernel_rfl) (fun _ _ _ h => h) (Or.inl ⟨by rfl, by intro w hSw; (try dsimp only at hSw); go_simp⟩) (by assumption) ?_
            simp only [Act.put, List.setIfInBounds_toArray, List.set_cons_zero, List.set_cons_succ]
            refine wpAnyH_take (i := 23) (oi := { dst := some 104, op := Go.Op.move (Go.Operand.tmp 3), type := 24, pos := "laws.go:206", after := #[{ on := 21, ground := Go.Ground.guard }], guard := some (21, true) }) (v := .slice au ns.length cu) rfl (by kernel_rfl) (by kernel_rfl) (by kernel_rfl) (fun _ _ _ h => h) (Or.inl ⟨by rfl, by intro w hSw; (try dsimp only at hSw); go_simp⟩) (by assumption) ?_
            simp only [Act.put, List.setIfInBounds_toArray, List.set_cons_zero, List.set_cons_succ]
            refine wpAnyH_take (i := 24) (oi := { dst := some 105, op := Go.Op.move (Go.Operand.tmp 4), type := 25, pos := "laws.go:206", after := #[{ on := 21, ground := Go.Ground.guard }], guard := some (21, true) }) (v := .slice (some ⟨gv, ov, none⟩) xs.length cv) rfl (by kernel_rfl) (by kernel_rfl) (by kernel_rfl) (fun _ _ _ h => h) (Or.inl ⟨by rfl, by intro w hSw; (try dsimp only at hSw); go_simp⟩) (by assumption) ?_
            simp only [Act.put, List.setIfInBounds_toArray, List.set_cons_zero, List.set_cons_succ]
            refine wpAnyH_ready (rs := [25]) (by kernel_rfl) (by simp) ?_
            refine AllReadyH.cons (o := { dst := some 106, op := Go.Op.call { callee := Go.Callee.value (Go.Operand.func 8), args := #[Go.Operand.tmp 104, Go.Operand.tmp 105], argTypes := #[24, 25] }, type := 29, pos := "laws.go:206", after := #[{ on := 23, ground := Go.Ground.data }, { on := 24, ground := Go.Ground.data }, { on := 21, ground := Go.Ground.chain }, { on := 21, ground := Go.Ground.guard }], guard := some (21, true) }) rfl (fun K hK => ?_) AllReadyH.nil
            go_simp
            go_at_call 8
            refine (HSE.out _ (HBb.out.trans (hm.mono HBb.out.size))).mono ?_
            rintro e wf ⟨rfl, hbx⟩
            have n0 := kept_cell hbx l2m m0
            have n1 := kept_cell hbx l2m m1
            have n2 := kept_cell hbx l4m m2
            have n3 := kept_cell hbx l4m m3
            have n4 := kept_cell hbx l6m m4
            have n5 := kept_cell hbx lam m5
            have n6 := kept_cell hbx lam m6
            have l2n := Nat.lt_of_lt_of_le l2m hbx.size
            have l4n := Nat.lt_of_lt_of_le l4m hbx.size
            have l6n := Nat.lt_of_lt_of_le l6m hbx.size
            have lan := Nat.lt_of_lt_of_le lam hbx.size
            have hn : Below wb.heap.size wb wf := hm.trans (hbx.mono hm.size)
            clear hbx
            go_wp2_with fail
            refine hK.out _ _ ⟨n0, n1, n2, n3, n4, n5, n6, hn⟩ (fun hHeld => ?_)
            clear hK K
            try simp only [Act.put, List.setIfInBounds_toArray, List.set_cons_zero, List.set_cons_succ]
            refine wpAnyH_take (i := 26) (oi := { dst := some 107, op := Go.Op.binOp Go.BinOp.eql 29 (Go.Operand.tmp 103) (Go.Operand.tmp 106) 29, type := 4, pos := "laws.go:206", after := #[{ on := 22, ground := Go.Ground.data }, { on := 25, ground := Go.Ground.data }, { on := 21, ground := Go.Ground.guard }], guard := some (21, true) }) (v := .bool true) rfl (by kernel_rfl) (by kernel_rfl) (by kernel_rfl) (fun _ _ _ h => h) (Or.inl ⟨by rfl, by intro w hSw; (try dsimp only at hSw); go_simp⟩) (by assumption) ?_
            simp only [Act.put, List.setIfInBounds_toArray, List.set_cons_zero, List.set_cons_succ]
            refine wpAnyH_take (i := 27) (oi := { dst := some 108, op := Go.Op.pick (Go.Operand.tmp 102) (Go.Operand.tmp 107) (Go.Operand.const (Go.Value.bool false)), type := 4, pos := "laws.go:206", after := #[{ on := 21, ground := Go.Ground.data }, { on := 26, ground := Go.Ground.data }], guard := none }) (v := .bool true) rfl (by kernel_rfl) (by kernel_rfl) (by kernel_rfl) (fun _ _ _ h => h) (Or.inl ⟨by rfl, by intro w hSw; (try dsimp only at hSw); go_simp⟩) (by assumption) ?_
            simp only [Act.put, List.setIfInBounds_toArray, List.set_cons_zero, List.set_cons_succ]
            refine wpAnyH_take (i := 28) (oi := { dst := some 109, op := Go.Op.move (Go.Operand.tmp 108), type := 4, pos := "laws.go:206", after := #[{ on := 27, ground := Go.Ground.data }, { on := 25, ground := Go.Ground.chain }], guard := none }) (v := .bool true) rfl (by kernel_rfl) (by kernel_rfl) (by kernel_rfl) (fun _ _ _ h => h) (Or.inl ⟨by rfl, by intro w hSw; (try dsimp only at hSw); go_simp⟩) (by assumption) ?_
            simp only [Act.put, List.setIfInBounds_toArray, List.set_cons_zero, List.set_cons_succ]
            refine wpAnyH_take (i := 29) (oi := { dst := some 110, op := Go.Op.fieldAddr 29 (Go.Operand.tmp 6) 1, type := 0, pos := "laws.go:206", after := #[{ on := 28, ground := Go.Ground.guard }], guard := some (28, true) }) (v := .pointer (some ⟨w4.heap.size, 1, none⟩)) rfl (by kernel_rfl) (by kernel_rfl) (by kernel_rfl) (fun _ _ _ h => h) (Or.inl ⟨by rfl, by intro w hSw; (try dsimp only at hSw); go_simp⟩) (by assumption) ?_
            simp only [Act.put, List.setIfInBounds_toArray, List.set_cons_zero, List.set_cons_succ]
            refine wpAnyH_take (i := 30) (oi := { dst := some 111, op := Go.Op.load 2 (Go.Operand.tmp 110), type := 2, pos := "laws.go:206", after := #[{ on := 29, ground := Go.Ground.data }, { on := 28, ground := Go.Ground.guard }], guard := some (28, true) }) (v := .int .i64 tv) rfl (by kernel_rfl) (by kernel_rfl) (by kernel_rfl) (fun _ _ _ h => h) (Or.inl ⟨by rfl, by intro w hSw; (try dsimp only at hSw); go_simp⟩) (by assumption) ?_
            simp only [Act.put, List.setIfInBounds_toArray, List.set_cons_zero, List.set_cons_succ]
            refine wpAnyH_take (i := 31) (oi := { dst := some 112, op := Go.Op.binOp Go.BinOp.neq 2 (Go.Operand.tmp 111) (Go.Operand.const (Go.Value.int Go.IntKind.i64 2)) 2, type := 4, pos := "laws.go:206", after := #[{ on := 30, ground := Go.Ground.data }, { on := 28, ground := Go.Ground.guard }], guard := some (28, true) }) (v := .bool true) rfl (by kernel_rfl) (by kernel_rfl) (by kernel_rfl) (fun _ _ _ h => h) (Or.inl ⟨by rfl, by intro w hSw; (try dsimp only at hSw); go_simp⟩) (by assumption) ?_
            simp only [Act.put, List.setIfInBounds_toArray, List.set_cons_zero, List.set_cons_succ]
            refine wpAnyH_take (i := 32) (oi := { dst := some 113, op := Go.Op.move (Go.Operand.tmp 112), type := 4, pos := "laws.go:206", after := #[{ on := 31, ground := Go.Ground.data }, { on := 28, ground := Go.Ground.chain }, { on := 28, ground := Go.Ground.guard }], guard := some (28, true) }) (v := .bool true) rfl (by kernel_rfl) (by kernel_rfl) (by kernel_rfl) (fun _ _ _ h => h) (Or.inl ⟨by rfl, by intro w hSw; (try dsimp only at hSw); go_simp⟩) (by assumption) ?_
            simp only [Act.put, List.setIfInBounds_toArray, List.set_cons_zero, List.set_cons_succ]
            refine wpAnyH_take (i := 33) (oi := { dst := some 114, op := Go.Op.fieldAddr 29 (Go.Operand.tmp 5) 1, type := 0, pos := "laws.go:206", after := #[{ on := 32, ground := Go.Ground.guard }], guard := some (32, false) }) (v := undef) rfl (by kernel_rfl) (by kernel_rfl) (by kernel_rfl) (fun _ _ _ h => h) (Or.inr ⟨by rfl, rfl⟩) (by assumption) ?_
            simp only [Act.put, List.setIfInBounds_toArray, List.set_cons_zero, List.set_cons_succ]
            refine wpAnyH_take (i := 34) (oi := { dst := some 115, op := Go.Op.load 2 (Go.Operand.tmp 114), type := 2, pos := "laws.go:206", after := #[{ on := 33, ground := Go.Ground.data }, { on := 32, ground := Go.Ground.guard }], guard := some (32, false) }) (v := undef) rfl (by kernel_rfl) (by kernel_rfl) (by kernel_rfl) (fun _ _ _ h => h) (Or.inr ⟨by rfl, rfl⟩) (by assumption) ?_
            simp only [Act.put, List.setIfInBounds_toArray, List.set_cons_zero, List.set_cons_succ]
            refine wpAnyH_take (i := 35) (oi := { dst := some 116, op := Go.Op.binOp Go.BinOp.eql 2 (Go.Operand.tmp 115) (Go.Operand.const (Go.Value.int Go.IntKind.i64 0)) 2, type := 4, pos := "laws.go:206", after := #[{ on := 34, ground := Go.Ground.data }, { on := 32, ground := Go.Ground.guard }], guard := some (32, false) }) (v := undef) rfl (by kernel_rfl) (by kernel_rfl) (by kernel_rfl) (fun _ _ _ h => h) (Or.inr ⟨by rfl, rfl⟩) (by assumption) ?_
            simp only [Act.put, List.setIfInBounds_toArray, List.set_cons_zero, List.set_cons_succ]
            refine wpAnyH_take (i := 36) (oi := { dst := some 117, op := Go.Op.pick (Go.Operand.tmp 113) (Go.Operand.const (Go.Value.bool true)) (Go.Operand.tmp 116), type := 4, pos := "laws.go:206", after := #[{ on := 32, ground := Go.Ground.data }, { on := 35, ground := Go.Ground.data }, { on := 28, ground := Go.Ground.guard }], guard := some (28, true) }) (v := .bool true) rfl (by kernel_rfl) (by kernel_rfl) (by kernel_rfl) (fun _ _ _ h => h) (Or.inl ⟨by rfl, by intro w hSw; (try dsimp only at hSw); go_simp⟩) (by assumption) ?_
            simp only [Act.put, List.setIfInBounds_toArray, List.set_cons_zero, List.set_cons_succ]
            refine wpAnyH_take (i := 37) (oi := { dst := some 118, op := Go.Op.move (Go.Operand.tmp 117), type := 4, pos := "laws.go:206", after := #[{ on := 36, ground := Go.Ground.data }, { on := 32, ground := Go.Ground.chain }, { on := 28, ground := Go.Ground.guard }], guard := some (28, true) }) (v := .bool true) rfl (by kernel_rfl) (by kernel_rfl) (by kernel_rfl) (fun _ _ _ h => h) (Or.inl ⟨by rfl, by intro w hSw; (try dsimp only at hSw); go_simp⟩) (by assumption) ?_
            simp only [Act.put, List.setIfInBounds_toArray, List.set_cons_zero, List.set_cons_succ]
            refine wpAnyH_take (i := 38) (oi := { dst := some 119, op := Go.Op.fieldAddr 29 (Go.Operand.tmp 5) 1, type := 0, pos := "laws.go:206", after := #[{ on := 37, ground := Go.Ground.guard }], guard := some (37, false) }) (v := undef) rfl (by kernel_rfl) (by kernel_rfl) (by kernel_rfl) (fun _ _ _ h => h) (Or.inr ⟨by rfl, rfl⟩) (by assumption) ?_
            simp only [Act.put, List.setIfInBounds_toArray, List.set_cons_zero, List.set_cons_succ]
            refine wpAnyH_take (i := 39) (oi := { dst := some 120, op := Go.Op.load 2 (Go.Operand.tmp 119), type := 2, pos := "laws.go:206", after := #[{ on := 38, ground := Go.Ground.data }, { on := 37, ground := Go.Ground.guard }], guard := some (37, false) }) (v := undef) rfl (by kernel_rfl) (by kernel_rfl) (by kernel_rfl) (fun _ _ _ h => h) (Or.inr ⟨by rfl, rfl⟩) (by assumption) ?_
            simp only [Act.put, List.setIfInBounds_toArray, List.set_cons_zero, List.set_cons_succ]
            refine wpAnyH_take (i := 40) (oi := { dst := some 121, op := Go.Op.binOp Go.BinOp.eql 2 (Go.Operand.tmp 120) (Go.Operand.const (Go.Value.int Go.IntKind.i64 1)) 2, type := 4, pos := "laws.go:206", after := #[{ on := 39, ground := Go.Ground.data }, { on := 37, ground := Go.Ground.guard }], guard := some (37, false) }) (v := undef) rfl (by kernel_rfl) (by kernel_rfl) (by kernel_rfl) (fun _ _ _ h => h) (Or.inr ⟨by rfl, rfl⟩) (by assumption) ?_
            simp only [Act.put, List.setIfInBounds_toArray, List.set_cons_zero, List.set_cons_succ]
            refine wpAnyH_take (i := 41) (oi := { dst := some 122, op := Go.Op.pick (Go.Operand.tmp 118) (Go.Operand.const (Go.Value.bool true)) (Go.Operand.tmp 121), type := 4, pos := "laws.go:206", after := #[{ on := 37, ground := Go.Ground.data }, { on := 40, ground := Go.Ground.data }, { on := 28, ground := Go.Ground.guard }], guard := some (28, true) }) (v := .bool true) rfl (by kernel_rfl) (by kernel_rfl) (by kernel_rfl) (fun _ _ _ h => h) (Or.inl ⟨by rfl, by intro w hSw; (try dsimp only at hSw); go_simp⟩) (by assumption) ?_
            simp only [Act.put, List.setIfInBounds_toArray, List.set_cons_zero, List.set_cons_succ]
            refine wpAnyH_take (i := 42) (oi := { dst := some 123, op := Go.Op.pick (Go.Operand.tmp 109) (Go.Operand.tmp 122) (Go.Operand.const (Go.Value.bool false)), type := 4, pos := "laws.go:206", after := #[{ on := 28, ground := Go.Ground.data }, { on := 41, ground := Go.Ground.data }], guard := none }) (v := .bool true) rfl (by kernel_rfl) (by kernel_rfl) (by kernel_rfl) (fun _ _ _ h => h) (Or.inl ⟨by rfl, by intro w hSw; (try dsimp only at hSw); go_simp⟩) (by assumption) ?_
            simp only [Act.put, List.setIfInBounds_toArray, List.set_cons_zero, List.set_cons_succ]
            refine wpAnyH_take (i := 43) (oi := { dst := some 2, op := Go.Op.assign (Go.Operand.tmp 123), type := 4, pos := "laws.go:206", after := #[{ on := 42, ground := Go.Ground.data }, { on := 37, ground := Go.Ground.chain }, { on := 0, ground := Go.Ground.phase }, { on := 1, ground := Go.Ground.phase }, { on := 2, ground := Go.Ground.phase }, { on := 3, ground := Go.Ground.phase }, { on := 4, ground := Go.Ground.phase }, { on := 5, ground := Go.Ground.phase }, { on := 6, ground := Go.Ground.phase }, { on := 7, ground := Go.Ground.phase }, { on := 8, ground := Go.Ground.phase }, { on := 9, ground := Go.Ground.phase }, { on := 10, ground := Go.Ground.phase }, { on := 11, ground := Go.Ground.phase }, { on := 12, ground := Go.Ground.phase }, { on := 13, ground := Go.Ground.phase }, { on := 14, ground := Go.Ground.phase }, { on := 15, ground := Go.Ground.phase }, { on := 16, ground := Go.Ground.phase }, { on := 17, ground := Go.Ground.phase }, { on := 18, ground := Go.Ground.phase }, { on := 19, ground := Go.Ground.phase }, { on := 20, ground := Go.Ground.phase }, { on := 21, ground := Go.Ground.phase }, { on := 22, ground := Go.Ground.phase }, { on := 23, ground := Go.Ground.phase }, { on := 24, ground := Go.Ground.phase }, { on := 25, ground := Go.Ground.phase }, { on := 26, ground := Go.Ground.phase }, { on := 27, ground := Go.Ground.phase }, { on := 28, ground := Go.Ground.phase }, { on := 29, ground := Go.Ground.phase }, { on := 30, ground := Go.Ground.phase }, { on := 31, ground := Go.Ground.phase }, { on := 32, ground := Go.Ground.phase }, { on := 33, ground := Go.Ground.phase }, { on := 34, ground := Go.Ground.phase }, { on := 35, ground := Go.Ground.phase }, { on := 36, ground := Go.Ground.phase }, { on := 37, ground := Go.Ground.phase }, { on := 38, ground := Go.Ground.phase }, { on := 39, ground := Go.Ground.phase }, { on := 40, ground := Go.Ground.phase }, { on := 41, ground := Go.Ground.phase }, { on := 42, ground := Go.Ground.phase }], guard := none }) (v := .bool true) rfl (by kernel_rfl) (by kernel_rfl) (by kernel_rfl) (fun _ _ _ h => h) (Or.inl ⟨by rfl, by intro w hSw; (try dsimp only at hSw); go_simp⟩) (by assumption) ?_
            simp only [Act.put, List.setIfInBounds_toArray, List.set_cons_zero, List.set_cons_succ]
            refine wpAnyH_done (by kernel_rfl) ?_ _
            go_wp2
            go_ret
            exact ⟨rfl, HB1.out.trans ((HBb.out.trans (hn.mono HBb.out.size)).mono HB1.out.size)⟩
  · have b1 : (rc != 0) = true := bne_iff_ne.2 (fun e => hgo (.inl e))
    have b2 : (rc != 8) = true := bne_iff_ne.2 (fun e => hgo (.inr e))
    have b3 : (rc == rc) = true := by simp
    have b4 : (tc == tc) = true := by simp
    clear hgo
    go_wp2_with fail
    generalize w4.alloc (.cells #[.int .i64 tc, .int .i64 tv] 29) = w5 at *
    have t0 : w5.drew.cell? ⟨w2.heap.size, 0, none⟩ = some (.int .i64 rc) := e0
    have t1 : w5.drew.cell? ⟨w4.heap.size, 0, none⟩ = some (.int .i64 tc) := f0
    have hB5d : Below w5.heap.size w5 w5.drew := (Below.refl _ w5).drew
    have f1 := fldC rc rv
    have f2 := fldC tc tv
    have hz2 : w2.heap.size < w5.heap.size := Nat.lt_trans hz4 hz5
    refine wp_region_held_drew (S := fun wx => wx.cell? ⟨w2.heap.size, 0, none⟩ = some (.int .i64 rc) ∧ wx.cell? ⟨w4.heap.size, 0, none⟩ = some (.int .i64 tc) ∧ Below w5.heap.size w5 wx) (by kernel_rfl) ⟨t0, t1, hB5d⟩ (fun hHeld => ?_)
    refine wpAnyH_take (i := 0) (oi := { dst := some 32, op := Go.Op.move (Go.Operand.tmp 3), type := 24, pos := "laws.go:195", after := #[], guard := none }) (v := .slice au ns.length cu) rfl (by kernel_rfl) (by kernel_rfl) (by kernel_rfl) (fun _ _ _ h => h) (Or.inl ⟨by rfl, by intro w hSw; (try dsimp only at hSw); go_simp⟩) (by assumption) ?_
    simp only [Act.put, List.setIfInBounds_toArray, List.set_cons_zero, List.set_cons_succ]
    refine wpAnyH_take (i := 1) (oi := { dst := some 33, op := Go.Op.move (Go.Operand.tmp 4), type := 25, pos := "laws.go:195", after := #[], guard := none }) (v := .slice av xs.length cv) rfl (by kernel_rfl) (by kernel_rfl) (by kernel_rfl) (fun _ _ _ h => h) (Or.inl ⟨by rfl, by intro w hSw; (try dsimp only at hSw); go_simp⟩) (by assumption) ?_
    simp only [Act.put, List.setIfInBounds_toArray, List.set_cons_zero, List.set_cons_succ]
    refine wpAnyH_take (i := 4) (oi := { dst := some 36, op := Go.Op.fieldAddr 29 (Go.Operand.tmp 5) 0, type := 0, pos := "laws.go:195", after := #[], guard := none }) (v := .pointer (some ⟨w2.heap.size, 0, none⟩)) rfl (by kernel_rfl) (by kernel_rfl) (by kernel_rfl) (fun _ _ _ h => h) (Or.inl ⟨by rfl, by intro w hSw; (try dsimp only at hSw); go_simp⟩) (by assumption) ?_
    simp only [Act.put, List.setIfInBounds_toArray, List.set_cons_zero, List.set_cons_succ]
    refine wpAnyH_take (i := 5) (oi := { dst := some 37, op := Go.Op.load 2 (Go.Operand.tmp 36), type := 2, pos := "laws.go:195", after := #[{ on := 4, ground := Go.Ground.data }], guard := none }) (v := .int .i64 rc) rfl (by kernel_rfl) (by kernel_rfl) (by kernel_rfl) (fun _ _ _ h => h) (Or.inl ⟨by rfl, by intro w hSw; (try dsimp only at hSw); go_simp⟩) (by assumption) ?_
    simp only [Act.put, List.setIfInBounds_toArray, List.set_cons_zero, List.set_cons_succ]
    refine wpAnyH_ready (rs := [2]) (by kernel_rfl) (by simp) ?_
    refine AllReadyH.cons (o := { dst := some 34, op := Go.Op.call { callee := Go.Callee.value (Go.Operand.func 8), args := #[Go.Operand.tmp 32, Go.Operand.tmp 33], argTypes := #[24, 25] }, type := 29, pos := "laws.go:195", after := #[{ on := 0, ground := Go.Ground.data }, { on := 1, ground := Go.Ground.data }], guard := none }) rfl (fun K hK => ?_) AllReadyH.nil
    go_simp
    go_at_call 8
    refine (HSE.out _ (HB5.out.trans (hB5d.mono HB5.out.size))).mono ?_
    rintro e w10 ⟨rfl, hb10⟩
    have g0 := kept_cell hb10 hz2 t0
    have g1 := kept_cell hb10 hz5 t1
    have hB10 : Below w5.heap.size w5 w10 := hB5d.trans hb10
    have hzA : w2.heap.size < w10.heap.size := Nat.lt_of_lt_of_le hz2 hb10.size
    have hzB : w4.heap.size < w10.heap.size := Nat.lt_of_lt_of_le hz5 hb10.size
    clear hb10
    go_wp2_with fail
    refine hK.out _ _ ⟨g0, g1, hB10⟩ (fun hHeld => ?_)
    clear hK K
    try simp only [Act.put, List.setIfInBounds_toArray, List.set_cons_zero, List.set_cons_succ]
    refine wpAnyH_take (i := 3) (oi := { dst := some 35, op := Go.Op.field 29 (Go.Operand.tmp 34) 0, type := 2, pos := "laws.go:195", after := #[{ on := 2, ground := Go.Ground.data }], guard := none }) (v := .int .i64 rc) rfl (by kernel_rfl) (by kernel_rfl) (by kernel_rfl) (fun _ _ _ h => h) (Or.inl ⟨by rfl, by intro w hSw; (try dsimp only at hSw); go_simp⟩) (by assumption) ?_
    simp only [Act.put, List.setIfInBounds_toArray, List.set_cons_zero, List.set_cons_succ]
    refine wpAnyH_take (i := 6) (oi := { dst := some 38, op := Go.Op.binOp Go.BinOp.eql 2 (Go.Operand.tmp 35) (Go.Operand.tmp 37) 2, type := 4, pos := "laws.go:195", after := #[{ on := 3, ground := Go.Ground.data }, { on := 5, ground := Go.Ground.data }], guard := none }) (v := .bool true) rfl (by kernel_rfl) (by kernel_rfl) (by kernel_rfl) (fun _ _ _ h => h) (Or.inl ⟨by rfl, by intro w hSw; (try dsimp only at hSw); go_simp⟩) (by assumption) ?_
    simp only [Act.put, List.setIfInBounds_toArray, List.set_cons_zero, List.set_cons_succ]
    refine wpAnyH_take (i := 7) (oi := { dst := some 39, op := Go.Op.move (Go.Operand.tmp 38), type := 4, pos := "laws.go:195", after := #[{ on := 6, ground := Go.Ground.data }, { on := 2, ground := Go.Ground.chain }], guard := none }) (v := .bool true) rfl (by kernel_rfl) (by kernel_rfl) (by kernel_rfl) (fun _ _ _ h => h) (Or.inl ⟨by rfl, by intro w hSw; (try dsimp only at hSw); go_simp⟩) (by assumption) ?_
    simp only [Act.put, List.setIfInBounds_toArray, List.set_cons_zero, List.set_cons_succ]
    refine wpAnyH_take (i := 8) (oi := { dst := some 40, op := Go.Op.move (Go.Operand.tmp 3), type := 24, pos := "laws.go:195", after := #[{ on := 7, ground := Go.Ground.guard }], guard := some (7, true) }) (v := .slice au ns.length cu) rfl (by kernel_rfl) (by kernel_rfl) (by kernel_rfl) (fun _ _ _ h => h) (Or.inl ⟨by rfl, by intro w hSw; (try dsimp only at hSw); go_simp⟩) (by assumption) ?_
    simp only [Act.put, List.setIfInBounds_toArray, List.set_cons_zero, List.set_cons_succ]
    refine wpAnyH_take (i := 11) (oi := { dst := some 43, op := Go.Op.fieldAddr 29 (Go.Operand.tmp 6) 0, type := 0, pos := "laws.go:195", after := #[{ on := 7, ground := Go.Ground.guard }], guard := some (7, true) }) (v := .pointer (some ⟨w4.heap.size, 0, none⟩)) rfl (by kernel_rfl) (by kernel_rfl) (by kernel_rfl) (fun _ _ _ h => h) (Or.inl ⟨by rfl, by intro w hSw; (try dsimp only at hSw); go_simp⟩) (by assumption) ?_
    simp only [Act.put, List.setIfInBounds_toArray, List.set_cons_zero, List.set_cons_succ]
    refine wpAnyH_take (i := 12) (oi := { dst := some 44, op := Go.Op.load 2 (Go.Operand.tmp 43), type := 2, pos := "laws.go:195", after := #[{ on := 11, ground := Go.Ground.data }, { on := 7, ground := Go.Ground.guard }], guard := some (7, true) }) (v := .int .i64 tc) rfl (by kernel_rfl) (by kernel_rfl) (by kernel_rfl) (fun _ _ _ h => h) (Or.inl ⟨by rfl, by intro w hSw; (try dsimp only at hSw); go_simp⟩) (by assumption) ?_
    simp only [Act.put, List.setIfInBounds_toArray, List.set_cons_zero, List.set_cons_succ]
    refine wpAnyH_ready (rs := [9]) (by kernel_rfl) (by simp) ?_
    refine AllReadyH.cons (o := { dst := some 41, op := Go.Op.call { callee := Go.Callee.value (Go.Operand.func 9), args := #[Go.Operand.tmp 40], argTypes := #[24] }, type := 29, pos := "laws.go:195", after := #[{ on := 8, ground := Go.Ground.data }, { on := 7, ground := Go.Ground.chain }, { on := 7, ground := Go.Ground.guard }], guard := some (7, true) }) rfl (fun K hK => ?_) AllReadyH.nil
    go_simp
    go_at_call 9
    refine (HST.out _ (HB5.out.trans (hB10.mono HB5.out.size))).mono ?_
    rintro e w11 ⟨rfl, hb11⟩
    have g2 := kept_cell hb11 hzA g0
    have g3 := kept_cell hb11 hzB g1
    have hB11 : Below w5.heap.size w5 w11 := hB10.trans (hb11.mono hB10.size)
    clear hb11
    go_wp2_with fail
    refine hK.out _ _ ⟨g2, g3, hB11⟩ (fun hHeld => ?_)
    clear hK K
    try simp only [Act.put, List.setIfInBounds_toArray, List.set_cons_zero, List.set_cons_succ]
    refine wpAnyH_take (i := 10) (oi := { dst := some 42, op := Go.Op.field 29 (Go.Operand.tmp 41) 0, type := 2, pos := "laws.go:195", after := #[{ on := 9, ground := Go.Ground.data }, { on := 7, ground := Go.Ground.guard }], guard := some (7, true) }) (v := .int .i64 tc) rfl (by kernel_rfl) (by kernel_rfl) (by kernel_rfl) (fun _ _ _ h => h) (Or.inl ⟨by rfl, by intro w hSw; (try dsimp only at hSw); go_simp⟩) (by assumption) ?_
    simp only [Act.put, List.setIfInBounds_toArray, List.set_cons_zero, List.set_cons_succ]
    refine wpAnyH_take (i := 13) (oi := { dst := some 45, op := Go.Op.binOp Go.BinOp.eql 2 (Go.Operand.tmp 42) (Go.Operand.tmp 44) 2, type := 4, pos := "laws.go:195", after := #[{ on := 10, ground := Go.Ground.data }, { on := 12, ground := Go.Ground.data }, { on := 7, ground := Go.Ground.guard }], guard := some (7, true) }) (v := .bool true) rfl (by kernel_rfl) (by kernel_rfl) (by kernel_rfl) (fun _ _ _ h => h) (Or.inl ⟨by rfl, by intro w hSw; (try dsimp only at hSw); go_simp⟩) (by assumption) ?_
    simp only [Act.put, List.setIfInBounds_toArray, List.set_cons_zero, List.set_cons_succ]
    refine wpAnyH_take (i := 14) (oi := { dst := some 46, op := Go.Op.pick (Go.Operand.tmp 39) (Go.Operand.tmp 45) (Go.Operand.const (Go.Value.bool false)), type := 4, pos := "laws.go:195", after := #[{ on := 7, ground := Go.Ground.data }, { on := 13, ground := Go.Ground.data }], guard := none }) (v := .bool true) rfl (by kernel_rfl) (by kernel_rfl) (by kernel_rfl) (fun _ _ _ h => h) (Or.inl ⟨by rfl, by intro w hSw; (try dsimp only at hSw); go_simp⟩) (by assumption) ?_
    simp only [Act.put, List.setIfInBounds_toArray, List.set_cons_zero, List.set_cons_succ]
    refine wpAnyH_take (i := 15) (oi := { dst := some 2, op := Go.Op.assign (Go.Operand.tmp 46), type := 4, pos := "laws.go:195", after := #[{ on := 14, ground := Go.Ground.data }, { on := 9, ground := Go.Ground.chain }, { on := 0, ground := Go.Ground.phase }, { on := 1, ground := Go.Ground.phase }, { on := 2, ground := Go.Ground.phase }, { on := 3, ground := Go.Ground.phase }, { on := 4, ground := Go.Ground.phase }, { on := 5, ground := Go.Ground.phase }, { on := 6, ground := Go.Ground.phase }, { on := 7, ground := Go.Ground.phase }, { on := 8, ground := Go.Ground.phase }, { on := 9, ground := Go.Ground.phase }, { on := 10, ground := Go.Ground.phase }, { on := 11, ground := Go.Ground.phase }, { on := 12, ground := Go.Ground.phase }, { on := 13, ground := Go.Ground.phase }, { on := 14, ground := Go.Ground.phase }], guard := none }) (v := .bool true) rfl (by kernel_rfl) (by kernel_rfl) (by kernel_rfl) (fun _ _ _ h => h) (Or.inl ⟨by rfl, by intro w hSw; (try dsimp only at hSw); go_simp⟩) (by assumption) ?_
    simp only [Act.put, List.setIfInBounds_toArray, List.set_cons_zero, List.set_cons_succ]
    refine wpAnyH_done (by kernel_rfl) ?_ _
    go_wp2
    go_ret
    exact ⟨rfl, HB1.out.trans ((HB5.out.trans (hB11.mono HB5.out.size)).mono HB1.out.size)⟩
theorem own : ownKnob Try.prog.godebug = none := by kernel_rfl
theorem laidOut : laidOutB Try.prog = true := by kernel_rfl
theorem open_nil {H : Type} {enc : TypeId × Value → H} {w : World} {base : Nat} {spare : Nat → Bool} {held : Bool} {fuel : Nat} {a : Option Addr} {len cap : Nat} {x : DataW H × List MemPlace} (h : DataW.trod enc Try.prog w base spare held fuel 22 [.slice a len cap] = some x) : a = none → len = 0 ∧ cap = 0 := by
  rcases open_ints Try.underlying22 Try.underlying5 (by kernel_rfl) h with ⟨hcs, _⟩ | ⟨x, l, c, zs, hcs, _⟩
  · simp at hcs
    exact fun _ => hcs.2
  · simp at hcs
    intro e
    rw [e] at hcs
    simp at hcs
set_option maxRecDepth 100000 in
theorem lifted (os : Os) (started : os.Started) (H : Type) (enc : TypeId × Value → H) :
    ReturnsInHanded {} Try.checked os 3 .any (Rows.fnEvalsSpec.pre6 enc Try.prog Try.f3 Rows.fnEvalsRow.domain false) (Rows.fnEvalsSpec.post enc Try.prog Try.f3 false true false false) := by
  refine returnsInHanded_of_change (C := Try.checked) own started (by kernel_rfl) Try.func3
    (ChangeSpec.witness6 (enc := enc) (C := Try.checked) false ⟨#[], #[.slice none 0 0], []⟩ 8 (by kernel_rfl) (by kernel_rfl) (by kernel_rfl) (by kernel_rfl)) ?_
  intro W base args ds gs before hval0 hW hcnd _
  have hval : ∀ (j : Nat) t v, Try.f3.params[j]? = some t → args[j]? = some v → Value.okWide Try.prog W .any base t v := hval0
  have hW' := hW
  obtain ⟨p, q, hA0, hV, rfl, hfz, hnd⟩ := hW
  have hA : DataW.TrodAll enc Try.prog W 0 (fun _ => true) true Try.f3.params.toList args.toList ds p := hA0
  rw [Try.params3] at hA hval
  obtain ⟨v0, vs0, d0, ds0, p0, q0, hargs, rfl, rfl, h0, r0⟩ := trodAll_cons hA
  obtain ⟨rfl, rfl, rfl⟩ := trodAll_nil r0
  obtain rfl : args = #[v0] := by cases args; simp_all
  obtain ⟨rfl, rfl⟩ := trodVars_none hV
  obtain ⟨a0, len0, cap0, rfl⟩ := okWide_slice Try.underlying22 (hval 0 22 v0 rfl rfl)
  have k0 := h0
  have lt0 : ∀ x ∈ p0, x.block < W.heap.size := by obtain ⟨m, hm⟩ := k0; exact DataW.trod_lt m _ _ _ hm
  obtain ⟨⟨ga0, gc0⟩, gn0⟩ : (Drw.CodeAt W.heap.size W a0 len0 ∧ len0 ≤ maxLen) ∧ (a0 = none → len0 = 0 ∧ cap0 = 0) := by
    obtain ⟨fuel, hf⟩ := h0
    exact ⟨Drw.open_code (by simpa [Value.cells] using hf), open_nil (by simpa [Value.cells] using hf)⟩
  clear hA0 hval0
  refine (walk a0 len0 cap0 W gc0 gn0 ga0).mono fun e W' ⟨he, bel⟩ => ?_
  subst he
  exact ⟨_, rfl, _, _, _, [], _, [], hW', trodAll_mk1 (shut_bool Try.underlying4 _), (trodAll_cons_mk (Below.trod laidOut (by kernel_rfl) (of_decide_eq_true (by kernel_rfl)) k0 bel lt0) trodAll_mk0), rfl, bel.frame _, fun h => by cases h⟩
theorem over : Rows.fnEvalsRow.holds Try.pinned (OpenSpec.ofChange Rows.fnEvalsSpec) :=
  OpenClaim.holds_of_wide 3 Try.f3 rfl rfl rfl rfl rfl rfl rfl ⟨rfl, rfl, rfl, rfl, rfl⟩ rfl rfl rfl rfl rfl (by kernel_rfl) Try.func3 (by kernel_rfl)
    (of_decide_eq_true (by kernel_rfl)) (by unfold Func.isWrapper; first | (rw [if_pos (by decide +kernel)]; kernel_rfl) | (rw [if_neg (by decide +kernel)]; exact ⟨rfl, rfl⟩))
    (fun os started H enc _ => lifted os started H enc)
end EvW
theorem fnEvals_holds : Rows.FnEvalsSaid := EvW.over
#print axioms fnEvals_holds
end Go.Proofs.Ytpegbiggmjepgaa
