/- Whatever code of bytes is handed in, the law FnProcs answers true: of a list of steps that is drawn, what is under a step stands behind it in one piece, only itself is under a task, a wait or a timer, all is under the first step, and places, depth and text are the specification's; where there is a code it is the specification's; the bytes handed in read afterwards as before. Conditions, tied to the program's own text: the tables of rules and of powers of ten hold what their initialisers lay. -/
import Derived.Test.YtnbmpofmieagfaaGreatDoorJFnProcsX
import Derived.Test.YtnbmpofmieagfaaGreatDoorJFnProcs24
import Derived.Test.YtnbmpofmieagfaaGreatDoorJFnProcs8
import Derived.Test.YtnbmpofmieagfaaGreatDoorJFnProcs39
import Derived.Test.YtnbmpofmieagfaaGreatDoorJFnProcs10
import Derived.Test.YtnbmpofmieagfaaGreatDoorJFnProcs41
import Derived.Test.YtnbmpofmieagfaaGreatDoorJFnProcs47
import Derived.Test.YtnbmpofmieagfaaGreatDoorJFnProcs48
import Derived.Deep.RegionHeld3
namespace Go.Proofs.YtnbmpofmieagfaaGreatDoor
open Go.ChangeShapes Go.WideShapes Go.ChangeAt Go.RowKit
open Go.ChangeMaps (open_string shut_string)
set_option linter.unusedVariables false
namespace FpL
open Ex (hid)
open St (StepD)
open Pf
open Ints (vals IntsAt)
theorem fldI (c : Int) (v : Value) (w : World) : Sem.run Tryz.prog (Instr.field 29 (.agg #[.int .i64 c, v]) 0) w = .ok (.int .i64 c) w := by kernel_rfl
theorem fldL (c : Int) (v : Value) (w : World) : Sem.run Tryz.prog (Instr.field 29 (.agg #[.int .i64 c, v]) 1) w = .ok v w := by kernel_rfl
theorem fldD (c x : Int) (w : World) : Sem.run Tryz.prog (Instr.field 33 (.agg #[.int .i64 c, .int .i64 x]) 1) w = .ok (.int .i64 x) w := by kernel_rfl
theorem fldT (c : Int) (t : ByteArray) (w : World) : Sem.run Tryz.prog (Instr.field 36 (.agg #[.int .i64 c, .string t]) 1) w = .ok (.string t) w := by kernel_rfl
theorem same_self (l : List StepD) : St.listEq St.stepEq l l = true := by
  have hn : ∀ (l : List Nd.NodeD), St.listEq Nd.nodeEq l l = true := fun l => by
    induction l with
    | nil => rfl
    | cons a r ih => simp [St.listEq, ih, Nd.nodeEq_self]
  induction l with
  | nil => rfl
  | cons a r ih => simp [St.listEq, ih, St.stepEq, hn]
theorem under_zero {ss : List StepD} {at' : Int} (h : underC ss at' = 0) : pFault ss = 0 ∧ ∃ k : Nat, at' = (k : Int) ∧ k < ss.length := by
  unfold underC at h
  by_cases hp : pFault ss ≠ 0
  · rw [if_pos hp] at h; exact absurd h hp
  · rw [if_neg hp] at h
    by_cases h2 : 0 ≤ at' ∧ at' < ss.length
    · exact ⟨by omega, at'.toNat, by omega, by omega⟩
    · rw [if_neg h2] at h; omega
set_option maxRecDepth 100000 in
set_option maxHeartbeats 16000000 in
theorem walk (a : Option Addr) (len cap : Nat) (w : World) (hl : len ≤ maxLen) (hc : Drw.CodeAt w.heap.size w a len) (hr : Rul w) (ht : Ex.Tab w) :
    Calls Tryz.prog 3 #[.slice a len cap] w fun e w' => e = .returned (.bool true) ∧ Below w.heap.size w w' := by
  have HC := hid hc
  have HRU := hid hr
  have HTA := hid ht
  clear hc hr ht
  by_cases q0 : (1048576 : Int) < (len : Int)
  · go_enter Tryz.func3, Tryz.ntmps3
    go_wp2_with (go_at_call 4; refine (Drw.big a len cap _).mono ?_; rintro e w9 ⟨rfl, hw9⟩; replace hw9 := hw9.symm; subst hw9)
    go_ret
    exact ⟨rfl, Below.refl _ _⟩
  have hln : len ≤ 1048576 := by omega
  go_enter Tryz.func3, Tryz.ntmps3
  go_wp2_with (go_at_call 4; refine (Drw.big a len cap _).mono ?_; rintro e w9 ⟨rfl, hw9⟩; replace hw9 := hw9.symm; subst hw9)
  refine (Dp.drawUnder len cap a _ (by omega) HC.out).mono ?_
  rintro e w1 ⟨ss, u, at', h25, hsm, hz, rfl, hat, hb1⟩
  obtain ⟨au, cu, rfl⟩ := hat.slice
  have HA := hid (hat.mono (Nat.zero_le _))
  have HSM : Hid (St.Small 1048576 ss) := hid ⟨by omega, fun s hs => (hsm s hs).mono (by omega)⟩
  have HR1 := hid (HRU.out.below hb1 HRU.out.lt)
  have HT1 := hid (HTA.out.below hb1)
  have HB1 := hid hb1
  clear hat hsm hb1 HC HRU HTA
  have HIU := hid (fun (z : Int) (wx : World) (hb : Below w1.heap.size w1 wx) => implStepsUnder ss _ z wx HSM.out (HA.out.below hb) (HR1.out.below hb HR1.out.lt))
  have HSU := hid (fun (z : Int) (wx : World) (hb : Below w1.heap.size w1 wx) => specStepsUnder 0 ss _ z wx HSM.out (HA.out.below hb))
  have HIL := hid (fun (wx : World) (hb : Below w1.heap.size w1 wx) => implLeavesOf ss _ wx HSM.out (HA.out.below hb) (HR1.out.below hb HR1.out.lt))
  have HSL := hid (fun (wx : World) (hb : Below w1.heap.size w1 wx) => specLeavesOf 0 ss _ wx HSM.out (HA.out.below hb))
  have HID := hid (fun (wx : World) (hb : Below w1.heap.size w1 wx) => implDeepOf ss _ wx HSM.out (HA.out.below hb) (HR1.out.below hb HR1.out.lt))
  have HSD := hid (fun (wx : World) (hb : Below w1.heap.size w1 wx) => specDeepOf 0 ss _ wx HSM.out (HA.out.below hb))
  have HIT := hid (fun (wx : World) (hb : Below w1.heap.size w1 wx) => implProcText ss _ wx HSM.out (HA.out.below hb) (HR1.out.below hb HR1.out.lt) (HT1.out.below hb))
  have HST := hid (fun (wx : World) (hb : Below w1.heap.size w1 wx) => specProcText 0 ss _ wx HSM.out (HA.out.below hb))
  have HPF := hid (fun (wx : World) (hb : Below w1.heap.size w1 wx) => implProcFault ss _ wx HSM.out (HA.out.below hb) (HR1.out.below hb HR1.out.lt))
  have HSP := hid (fun (wx : World) (hb : Below w1.heap.size w1 wx) => St.implSame 0 0 ss ss _ _ wx HSM.out HSM.out (HA.out.below hb) (HA.out.below hb))
  rw [same_self] at HSP
  have HU1 := hid (HIU.out at' w1 (Below.refl _ _))
  have HSU1 := hid (fun (wx : World) (hb : Below w1.heap.size w1 wx) => HSU.out at' wx hb)
  clear HSU
  have hLen := underL_len (ss := ss) (at' := at')
  have HZE := hid (fun (h : underC ss at' = 0) => under_zero h)
  generalize huc : underC ss at' = uc at *
  generalize hul : underL ss at' = ul at *
  have HUC := hid huc
  have HUL := hid hul
  clear huc hul
  go_wp2_with fail
  refine HU1.out.mono ?_
  rintro e w2 ⟨⟨u2, rfl, ho2⟩, hb2⟩
  obtain ⟨a2, c2, rfl⟩ := Ints.owns_slice ho2
  have hx3 : Below w2.heap.size w2 (w2.alloc (.cells #[.int .i64 uc, .slice a2 ul.length c2] 29)) := (Below.refl _ w2).alloc (Nat.le_refl _) _
  have HB3 : Hid (Below w1.heap.size w1 (w2.alloc (.cells #[.int .i64 uc, .slice a2 ul.length c2] 29))) := hid (hb2.alloc hb2.size _)
  have HI3 := hid ((IntsAt.of ho2).below hx3)
  have c0 : (w2.alloc (.cells #[.int .i64 uc, .slice a2 ul.length c2] 29)).cell? ⟨w2.heap.size, 0, none⟩ = some (.int .i64 uc) := by go_simp
  have c1 : (w2.alloc (.cells #[.int .i64 uc, .slice a2 ul.length c2] 29)).cell? ⟨w2.heap.size, 1, none⟩ = some (.slice a2 ul.length c2) := by go_simp
  have hz3 : w2.heap.size < (w2.alloc (.cells #[.int .i64 uc, .slice a2 ul.length c2] 29)).heap.size := by simp
  clear ho2 hb2 hx3 HU1
  by_cases hu : uc = 0
  · obtain ⟨hp0, k, hk, hkl⟩ := HZE.out hu
    subst hu
    have HP0 := hid hp0
    have hat' : at' = (k : Int) := hk
    subst hat'
    clear hk HZE
    have HUL0 : Hid (ul = intsOf (underN ss k)) := hid (by rw [← HUL.out]; exact (under_ok hp0 hkl).2)
    have HGET : Hid (∀ q (hq : q < ul.length), ul[q] = (k : Int) + (q : Int)) := hid (fun q hq => by
      have e := HUL0.out
      subst e
      exact under_get hq)
    have hs1 : 1 ≤ ss.length := by omega
    have HU00 : Hid (underC ss 0 = 0 ∧ (underL ss 0).length = ss.length) := hid (by
      have h := under_ok (ss := ss) (k := 0) hp0 (by omega)
      rw [show ((0 : Nat) : Int) = 0 from rfl] at h
      exact ⟨h.1, by rw [h.2, intsOf_len]; exact all_under hp0⟩)
    have HLEAF : Hid (∀ q (hq : q < (leavesL ss).length), ∃ k' : Nat, k' < 25 ∧ (leavesL ss)[q] = (k' : Int) ∧ underC ss k' = 0 ∧ (underL ss k').length = 1) := hid (fun q hq => by
      have e := leaves_ok hp0
      have : ∀ (l : List Int) (hq : q < l.length), l = intsOf (leavesN ss ss.length) → ∃ k' : Nat, k' < 25 ∧ l[q] = (k' : Int) ∧ underC ss k' = 0 ∧ (underL ss k').length = 1 := by
        intro l hq hl
        subst hl
        obtain ⟨k', h1, h2, h3⟩ := leaf_mem hq
        have hu := under_ok hp0 h1
        exact ⟨k', by omega, h3, hu.1, by rw [hu.2, leaf_under hp0 h1 h2]; rfl⟩
      exact this _ hq e)
    have hdv : 1 ≤ deepV ss := by
      rw [deepV_ok hp0]
      have := deep_pos (ss := ss) (n := ss.length) (by omega)
      omega
    have hdv7 : deepV ss ≤ 7 := by
      rw [deepV_ok hp0]
      have := deep_le (of_p hp0).2.1 (n := ss.length) (Nat.le_refl _)
      omega
    have hll : (leavesL ss).length ≤ 25 := Nat.le_trans leavesL_len h25
    have HIU0 := hid (fun (wx : World) (hb : Below w1.heap.size w1 wx) => HIU.out 0 wx hb)
    rw [HU00.out.1] at HIU0
    have HU0L := hid HU00.out.2
    rw [hp0] at HIL HSL HID HSD HIT HST HPF
    generalize underL ss 0 = u0 at *
    generalize leavesL ss = ll at *
    generalize deepV ss = dv at *
    generalize procT ss = tx at *
    clear HU00 hp0 HUL HUC
    go_wp2_with fail
    generalize (w2.alloc (.cells #[.int .i64 0, .slice a2 ul.length c2] 29)) = w3 at *
    go_loop [6] (fun i => ∃ q : Nat, i = .int .i64 q ∧ q ≤ ul.length) (fun i => ul.length - (intOf i).toNat)
    case atStart => exact ⟨0, rfl, Nat.zero_le _⟩
    case round =>
      obtain ⟨q, rfl, hq⟩ := hrel
      by_cases hlt : q < ul.length
      · have q1 : (q : Int) < (ul.length : Int) := by omega
        obtain ⟨g, rfl, hg, d0⟩ := HI3.out.at hlt
        rw [HGET.out q hlt] at d0
        have b2 : ((k : Int) + (q : Int) != (k : Int) + (q : Int)) = false := by simp
        go_wp2
        exact ⟨⟨q + 1, by simp, by omega⟩, by simp [intOf]; omega⟩
      · have q1 : ¬ (q : Int) < (ul.length : Int) := by omega
        clear hlt
        go_wp2_with fail
        refine (HIL.out w3 HB3.out).mono ?_
        rintro e w4 ⟨⟨u4, rfl, ho4⟩, hb4⟩
        obtain ⟨a4, c4, rfl⟩ := Ints.owns_slice ho4
        have e1 := kept_cell hb4 hz3 c1
        have hz4 : w2.heap.size < w4.heap.size := Nat.lt_of_lt_of_le hz3 hb4.size
        have HB4 := hid (HB3.out.trans (hb4.mono HB3.out.size))
        have hx5 : Below w4.heap.size w4 (w4.alloc (.cells #[.int .i64 0, .slice a4 ll.length c4] 29)) := (Below.refl _ w4).alloc (Nat.le_refl _) _
        have HB5 := hid (HB4.out.trans (hx5.mono HB4.out.size))
        have r1 := kept_cell hx5 hz4 e1
        have d0 : (w4.alloc (.cells #[.int .i64 0, .slice a4 ll.length c4] 29)).cell? ⟨w4.heap.size, 0, none⟩ = some (.int .i64 0) := by go_simp
        have d1 : (w4.alloc (.cells #[.int .i64 0, .slice a4 ll.length c4] 29)).cell? ⟨w4.heap.size, 1, none⟩ = some (.slice a4 ll.length c4) := by go_simp
        have hz5 : w4.heap.size < (w4.alloc (.cells #[.int .i64 0, .slice a4 ll.length c4] 29)).heap.size := by simp
        have hz25 : w2.heap.size < (w4.alloc (.cells #[.int .i64 0, .slice a4 ll.length c4] 29)).heap.size := Nat.lt_trans hz4 hz5
        have HI5 := hid ((IntsAt.of ho4).below hx5)
        clear ho4 hb4 hx5 e1 c0 c1 HI3 HGET HB3 HB4 HIL
        go_wp2_with fail
        generalize w4.alloc (.cells #[.int .i64 0, .slice a4 ll.length c4] 29) = w5 at *
        go_loopw [8] (fun i wr => ∃ x : Nat, i = .int .i64 x ∧ x ≤ ll.length ∧ Hid (Below w5.heap.size w5 wr)) (fun i _ => ll.length - (intOf i).toNat)
        case atStart => exact ⟨0, rfl, Nat.zero_le _, hid (Below.refl _ _)⟩
        case round =>
          obtain ⟨x, rfl, hx, HBR⟩ := hrel
          have L1 := kept_cell HBR.out hz5 d1
          have hz6 : w4.heap.size < wr.heap.size := Nat.lt_of_lt_of_le hz5 HBR.out.size
          have HB1r := hid (HB5.out.trans (HBR.out.mono HB5.out.size))
          by_cases hlt : x < ll.length
          · have q2 : (x : Int) < (ll.length : Int) := by omega
            obtain ⟨g, rfl, hg, dl⟩ := (HI5.out.below HBR.out).at hlt
            obtain ⟨k', hk', hget, hU, hL1⟩ := HLEAF.out x hlt
            rw [hget] at dl
            have HUK := hid (HIU.out (k' : Int) wr HB1r.out)
            rw [hU] at HUK
            have HL1 := hid hL1
            generalize underL ss (k' : Int) = lk at *
            clear hL1 hU hget
            go_wp2_with fail
            refine HUK.out.mono ?_
            rintro e w6 ⟨⟨u6, rfl, ho6⟩, hb6⟩
            obtain ⟨a6, c6, rfl⟩ := Ints.owns_slice ho6
            have b5 : ((lk.length : Int) != 1) = false := by rw [HL1.out]; rfl
            have HB6 := hid (HBR.out.trans (hb6.mono HBR.out.size))
            have fl := fldL 0 (.slice a6 lk.length c6)
            clear ho6 hb6 HUK
            go_wp2
            exact ⟨⟨x + 1, by simp, by omega, HB6⟩, by simp [intOf]; omega⟩
          · have q2 : ¬ (x : Int) < (ll.length : Int) := by omega
            have r1r := kept_cell HBR.out hz25 r1
            have d0r := kept_cell HBR.out hz5 d0
            have hz26 : w2.heap.size < wr.heap.size := Nat.lt_of_lt_of_le hz25 HBR.out.size
            clear hlt HLEAF HIU HI5 d0 d1 r1
            go_wp2_with fail
            refine (HID.out wr HB1r.out).mono ?_
            rintro e w7 ⟨rfl, hb7⟩
            have hx8 : Below w7.heap.size w7 (w7.alloc (.cells #[.int .i64 0, .int .i64 dv] 33)) := (Below.refl _ w7).alloc (Nat.le_refl _) _
            have hb8 := hb7.trans (hx8.mono hb7.size)
            have HB8 := hid (HB1r.out.trans (hb8.mono HB1r.out.size))
            have r8 := kept_cell hb8 hz26 r1r
            have m8 := kept_cell hb8 hz6 d0r
            have n8 := kept_cell hb8 hz6 L1
            have p8 : (w7.alloc (.cells #[.int .i64 0, .int .i64 dv] 33)).cell? ⟨w7.heap.size, 1, none⟩ = some (.int .i64 dv) := by go_simp
            have hz7 : w7.heap.size < (w7.alloc (.cells #[.int .i64 0, .int .i64 dv] 33)).heap.size := by simp
            have hz28 : w2.heap.size < (w7.alloc (.cells #[.int .i64 0, .int .i64 dv] 33)).heap.size := Nat.lt_of_lt_of_le hz26 hb8.size
            have hz48 : w4.heap.size < (w7.alloc (.cells #[.int .i64 0, .int .i64 dv] 33)).heap.size := Nat.lt_of_lt_of_le hz6 hb8.size
            clear hb7 hx8 hb8 r1r d0r L1 HB1r HBR hz26 hz6 HID
            go_wp2_with fail
            generalize w7.alloc (.cells #[.int .i64 0, .int .i64 dv] 33) = w8 at *
            refine (HIT.out w8 HB8.out).mono ?_
            rintro e w9 ⟨rfl, hb9⟩
            have hxz : Below w9.heap.size w9 (w9.alloc (.cells #[.int .i64 0, .string tx] 36)) := (Below.refl _ w9).alloc (Nat.le_refl _) _
            have hbz := hb9.trans (hxz.mono hb9.size)
            have HBZ := hid (HB8.out.trans (hbz.mono HB8.out.size))
            have xr := kept_cell hbz hz28 r8
            have xm := kept_cell hbz hz48 m8
            have xn := kept_cell hbz hz48 n8
            have xp := kept_cell hbz hz7 p8
            have xt : (w9.alloc (.cells #[.int .i64 0, .string tx] 36)).cell? ⟨w9.heap.size, 1, none⟩ = some (.string tx) := by go_simp
            have l2 : w2.heap.size < (w9.alloc (.cells #[.int .i64 0, .string tx] 36)).heap.size := Nat.lt_of_lt_of_le hz28 hbz.size
            have l4 : w4.heap.size < (w9.alloc (.cells #[.int .i64 0, .string tx] 36)).heap.size := Nat.lt_of_lt_of_le hz48 hbz.size
            have l7 : w7.heap.size < (w9.alloc (.cells #[.int .i64 0, .string tx] 36)).heap.size := Nat.lt_of_lt_of_le hz7 hbz.size
            have l9 : w9.heap.size < (w9.alloc (.cells #[.int .i64 0, .string tx] 36)).heap.size := by simp
            clear hb9 hxz hbz r8 m8 n8 p8 HB8 HIT hz28 hz48 hz7
            go_wp2_with fail
            generalize w9.alloc (.cells #[.int .i64 0, .string tx] 36) = wz at *
            have y0 : wz.drew.cell? ⟨w2.heap.size, 1, none⟩ = some (.slice a2 ul.length c2) := xr
            have y1 : wz.drew.cell? ⟨w4.heap.size, 0, none⟩ = some (.int .i64 0) := xm
            have y2 : wz.drew.cell? ⟨w4.heap.size, 1, none⟩ = some (.slice a4 ll.length c4) := xn
            have y3 : wz.drew.cell? ⟨w7.heap.size, 1, none⟩ = some (.int .i64 dv) := xp
            have y4 : wz.drew.cell? ⟨w9.heap.size, 1, none⟩ = some (.string tx) := xt
            have hy : Below wz.heap.size wz wz.drew := (Below.refl _ wz).drew
            have k0 : w2.heap.size < wz.drew.heap.size := l2
            have k1 : w4.heap.size < wz.drew.heap.size := l4
            have k3 : w7.heap.size < wz.drew.heap.size := l7
            have k4 : w9.heap.size < wz.drew.heap.size := l9
            have v1 : ((ll.length : Int) == (ll.length : Int)) = true := by simp
            have v2 : (dv == dv) = true := by simp
            have v3 : (tx.toList == tx.toList) = true := by simp
            have v4 : ((ul.length : Int) == (ul.length : Int)) = true := by simp
            have v5 : ((u0.length : Int) == (ss.length : Int)) = true := by rw [HU0L.out]; simp
            have v6 : decide (1 ≤ dv) = true := decide_eq_true hdv
            refine wp_region_held_drew (S := fun wx => wx.cell? ⟨w2.heap.size, 1, none⟩ = some (.slice a2 ul.length c2) ∧ wx.cell? ⟨w4.heap.size, 0, none⟩ = some (.int .i64 0) ∧ wx.cell? ⟨w4.heap.size, 1, none⟩ = some (.slice a4 ll.length c4) ∧ wx.cell? ⟨w7.heap.size, 1, none⟩ = some (.int .i64 dv) ∧ wx.cell? ⟨w9.heap.size, 1, none⟩ = some (.string tx) ∧ Below wz.heap.size wz wx) (by kernel_rfl) ⟨y0, y1, y2, y3, y4, hy⟩ (fun hHeld => ?_)
            refine wpAnyH_take (i := 0) (oi := { dst := some 70, op := Go.Op.move (Go.Operand.tmp 3), type := 24, pos := "laws.go:232", after := #[], guard := none }) (v := .slice au ss.length cu) rfl (by kernel_rfl) (by kernel_rfl) (by kernel_rfl) (fun _ _ _ h => h) (Or.inl ⟨by rfl, by intro w hSw; (try dsimp only at hSw); go_simp⟩) (by assumption) ?_
            simp only [Act.put, List.setIfInBounds_toArray, List.set_cons_zero, List.set_cons_succ]
            refine wpAnyH_ready (rs := [1]) (by kernel_rfl) (by simp) ?_
            refine AllReadyH.cons (o := { dst := some 71, op := Go.Op.call { callee := Go.Callee.value (Go.Operand.func 11), args := #[Go.Operand.tmp 70], argTypes := #[24] }, type := 2, pos := "laws.go:232", after := #[{ on := 0, ground := Go.Ground.data }], guard := none }) rfl (fun K hK => ?_) AllReadyH.nil
            go_simp
            go_at_call 11
            refine (HPF.out _ (HBZ.out.trans (hy.mono HBZ.out.size))).mono ?_
            rintro e wn1 ⟨rfl, hbx⟩
            have z1_0 := kept_cell hbx k0 y0
            have z1_1 := kept_cell hbx k1 y1
            have z1_2 := kept_cell hbx k1 y2
            have z1_3 := kept_cell hbx k3 y3
            have z1_4 := kept_cell hbx k4 y4
            have q1_0 := Nat.lt_of_lt_of_le k0 hbx.size
            have q1_1 := Nat.lt_of_lt_of_le k1 hbx.size
            have q1_3 := Nat.lt_of_lt_of_le k3 hbx.size
            have q1_4 := Nat.lt_of_lt_of_le k4 hbx.size
            have h1_ : Below wz.heap.size wz wn1 := hy.trans (hbx.mono hy.size)
            clear hbx
            go_wp2_with fail
            refine hK.out _ _ ⟨z1_0, z1_1, z1_2, z1_3, z1_4, h1_⟩ (fun hHeld => ?_)
            clear hK K
            try simp only [Act.put, List.setIfInBounds_toArray, List.set_cons_zero, List.set_cons_succ]
            refine wpAnyH_take (i := 2) (oi := { dst := some 72, op := Go.Op.binOp Go.BinOp.eql 2 (Go.Operand.tmp 71) (Go.Operand.const (Go.Value.int Go.IntKind.i64 0)) 2, type := 4, pos := "laws.go:232", after := #[{ on := 1, ground := Go.Ground.data }], guard := none }) (v := .bool true) rfl (by kernel_rfl) (by kernel_rfl) (by kernel_rfl) (fun _ _ _ h => h) (Or.inl ⟨by rfl, by intro w hSw; (try dsimp only at hSw); go_simp⟩) (by assumption) ?_
            simp only [Act.put, List.setIfInBounds_toArray, List.set_cons_zero, List.set_cons_succ]
            refine wpAnyH_take (i := 3) (oi := { dst := some 73, op := Go.Op.move (Go.Operand.tmp 72), type := 4, pos := "laws.go:232", after := #[{ on := 2, ground := Go.Ground.data }, { on := 1, ground := Go.Ground.chain }], guard := none }) (v := .bool true) rfl (by kernel_rfl) (by kernel_rfl) (by kernel_rfl) (fun _ _ _ h => h) (Or.inl ⟨by rfl, by intro w hSw; (try dsimp only at hSw); go_simp⟩) (by assumption) ?_
            simp only [Act.put, List.setIfInBounds_toArray, List.set_cons_zero, List.set_cons_succ]
            refine wpAnyH_take (i := 4) (oi := { dst := some 74, op := Go.Op.fieldAddr 29 (Go.Operand.tmp 7) 0, type := 0, pos := "laws.go:232", after := #[{ on := 3, ground := Go.Ground.guard }], guard := some (3, true) }) (v := .pointer (some ⟨w4.heap.size, 0, none⟩)) rfl (by kernel_rfl) (by kernel_rfl) (by kernel_rfl) (fun _ _ _ h => h) (Or.inl ⟨by rfl, by intro w hSw; (try dsimp only at hSw); go_simp⟩) (by assumption) ?_
            simp only [Act.put, List.setIfInBounds_toArray, List.set_cons_zero, List.set_cons_succ]
            refine wpAnyH_take (i := 5) (oi := { dst := some 75, op := Go.Op.load 2 (Go.Operand.tmp 74), type := 2, pos := "laws.go:232", after := #[{ on := 4, ground := Go.Ground.data }, { on := 3, ground := Go.Ground.guard }], guard := some (3, true) }) (v := .int .i64 0) rfl (by kernel_rfl) (by kernel_rfl) (by kernel_rfl) (fun _ _ _ h => h) (Or.inl ⟨by rfl, by intro w hSw; (try dsimp only at hSw); go_simp⟩) (by assumption) ?_
            simp only [Act.put, List.setIfInBounds_toArray, List.set_cons_zero, List.set_cons_succ]
            refine wpAnyH_take (i := 6) (oi := { dst := some 76, op := Go.Op.binOp Go.BinOp.eql 2 (Go.Operand.tmp 75) (Go.Operand.const (Go.Value.int Go.IntKind.i64 0)) 2, type := 4, pos := "laws.go:232", after := #[{ on := 5, ground := Go.Ground.data }, { on := 3, ground := Go.Ground.guard }], guard := some (3, true) }) (v := .bool true) rfl (by kernel_rfl) (by kernel_rfl) (by kernel_rfl) (fun _ _ _ h => h) (Or.inl ⟨by rfl, by intro w hSw; (try dsimp only at hSw); go_simp⟩) (by assumption) ?_
            simp only [Act.put, List.setIfInBounds_toArray, List.set_cons_zero, List.set_cons_succ]
            refine wpAnyH_take (i := 7) (oi := { dst := some 77, op := Go.Op.pick (Go.Operand.tmp 73) (Go.Operand.tmp 76) (Go.Operand.const (Go.Value.bool false)), type := 4, pos := "laws.go:232", after := #[{ on := 3, ground := Go.Ground.data }, { on := 6, ground := Go.Ground.data }], guard := none }) (v := .bool true) rfl (by kernel_rfl) (by kernel_rfl) (by kernel_rfl) (fun _ _ _ h => h) (Or.inl ⟨by rfl, by intro w hSw; (try dsimp only at hSw); go_simp⟩) (by assumption) ?_
            simp only [Act.put, List.setIfInBounds_toArray, List.set_cons_zero, List.set_cons_succ]
            refine wpAnyH_take (i := 8) (oi := { dst := some 78, op := Go.Op.move (Go.Operand.tmp 77), type := 4, pos := "laws.go:232", after := #[{ on := 7, ground := Go.Ground.data }, { on := 3, ground := Go.Ground.chain }], guard := none }) (v := .bool true) rfl (by kernel_rfl) (by kernel_rfl) (by kernel_rfl) (fun _ _ _ h => h) (Or.inl ⟨by rfl, by intro w hSw; (try dsimp only at hSw); go_simp⟩) (by assumption) ?_
            simp only [Act.put, List.setIfInBounds_toArray, List.set_cons_zero, List.set_cons_succ]
            refine wpAnyH_take (i := 9) (oi := { dst := some 79, op := Go.Op.fieldAddr 29 (Go.Operand.tmp 7) 1, type := 0, pos := "laws.go:232", after := #[{ on := 8, ground := Go.Ground.guard }], guard := some (8, true) }) (v := .pointer (some ⟨w4.heap.size, 1, none⟩)) rfl (by kernel_rfl) (by kernel_rfl) (by kernel_rfl) (fun _ _ _ h => h) (Or.inl ⟨by rfl, by intro w hSw; (try dsimp only at hSw); go_simp⟩) (by assumption) ?_
            simp only [Act.put, List.setIfInBounds_toArray, List.set_cons_zero, List.set_cons_succ]
            refine wpAnyH_take (i := 10) (oi := { dst := some 80, op := Go.Op.load 27 (Go.Operand.tmp 79), type := 27, pos := "laws.go:232", after := #[{ on := 9, ground := Go.Ground.data }, { on := 8, ground := Go.Ground.guard }], guard := some (8, true) }) (v := .slice a4 ll.length c4) rfl (by kernel_rfl) (by kernel_rfl) (by kernel_rfl) (fun _ _ _ h => h) (Or.inl ⟨by rfl, by intro w hSw; (try dsimp only at hSw); go_simp⟩) (by assumption) ?_
            simp only [Act.put, List.setIfInBounds_toArray, List.set_cons_zero, List.set_cons_succ]
            refine wpAnyH_take (i := 11) (oi := { dst := some 81, op := Go.Op.call { callee := Go.Callee.builtin Go.Builtin.len, args := #[Go.Operand.tmp 80], argTypes := #[27] }, type := 3, pos := "laws.go:232", after := #[{ on := 10, ground := Go.Ground.data }, { on := 8, ground := Go.Ground.guard }], guard := some (8, true) }) (v := .int .i64 (ll.length : Int)) rfl (by kernel_rfl) (by kernel_rfl) (by kernel_rfl) (fun _ _ _ h => h) (Or.inl ⟨by rfl, by intro w hSw; (try dsimp only at hSw); go_simp⟩) (by assumption) ?_
            simp only [Act.put, List.setIfInBounds_toArray, List.set_cons_zero, List.set_cons_succ]
            refine wpAnyH_take (i := 12) (oi := { dst := some 82, op := Go.Op.move (Go.Operand.tmp 3), type := 24, pos := "laws.go:232", after := #[{ on := 8, ground := Go.Ground.guard }], guard := some (8, true) }) (v := .slice au ss.length cu) rfl (by kernel_rfl) (by kernel_rfl) (by kernel_rfl) (fun _ _ _ h => h) (Or.inl ⟨by rfl, by intro w hSw; (try dsimp only at hSw); go_simp⟩) (by assumption) ?_
            simp only [Act.put, List.setIfInBounds_toArray, List.set_cons_zero, List.set_cons_succ]
            refine wpAnyH_ready (rs := [13]) (by kernel_rfl) (by simp) ?_
            refine AllReadyH.cons (o := { dst := some 83, op := Go.Op.call { callee := Go.Callee.value (Go.Operand.func 12), args := #[Go.Operand.tmp 82], argTypes := #[24] }, type := 29, pos := "laws.go:232", after := #[{ on := 12, ground := Go.Ground.data }, { on := 8, ground := Go.Ground.chain }, { on := 8, ground := Go.Ground.guard }], guard := some (8, true) }) rfl (fun K hK => ?_) AllReadyH.nil
            go_simp
            go_at_call 12
            refine (HSL.out _ (HBZ.out.trans (h1_.mono HBZ.out.size))).mono ?_
            rintro e wn2 ⟨⟨ux, rfl, hox⟩, hbx⟩
            obtain ⟨ax2, cx2, rfl⟩ := Ints.owns_slice hox
            clear hox
            have fq2 := fldL 0 (.slice ax2 ll.length cx2)
            have z2_0 := kept_cell hbx q1_0 z1_0
            have z2_1 := kept_cell hbx q1_1 z1_1
            have z2_2 := kept_cell hbx q1_1 z1_2
            have z2_3 := kept_cell hbx q1_3 z1_3
            have z2_4 := kept_cell hbx q1_4 z1_4
            have q2_0 := Nat.lt_of_lt_of_le q1_0 hbx.size
            have q2_1 := Nat.lt_of_lt_of_le q1_1 hbx.size
            have q2_3 := Nat.lt_of_lt_of_le q1_3 hbx.size
            have q2_4 := Nat.lt_of_lt_of_le q1_4 hbx.size
            have h2_ : Below wz.heap.size wz wn2 := h1_.trans (hbx.mono h1_.size)
            clear hbx
            go_wp2_with fail
            refine hK.out _ _ ⟨z2_0, z2_1, z2_2, z2_3, z2_4, h2_⟩ (fun hHeld => ?_)
            clear hK K
            try simp only [Act.put, List.setIfInBounds_toArray, List.set_cons_zero, List.set_cons_succ]
            refine wpAnyH_take (i := 14) (oi := { dst := some 84, op := Go.Op.field 29 (Go.Operand.tmp 83) 1, type := 27, pos := "laws.go:232", after := #[{ on := 13, ground := Go.Ground.data }, { on := 8, ground := Go.Ground.guard }], guard := some (8, true) }) (v := .slice ax2 ll.length cx2) rfl (by kernel_rfl) (by kernel_rfl) (by kernel_rfl) (fun _ _ _ h => h) (Or.inl ⟨by rfl, by intro w hSw; (try dsimp only at hSw); go_simp⟩) (by assumption) ?_
            simp only [Act.put, List.setIfInBounds_toArray, List.set_cons_zero, List.set_cons_succ]
            refine wpAnyH_take (i := 15) (oi := { dst := some 85, op := Go.Op.call { callee := Go.Callee.builtin Go.Builtin.len, args := #[Go.Operand.tmp 84], argTypes := #[27] }, type := 3, pos := "laws.go:232", after := #[{ on := 14, ground := Go.Ground.data }, { on := 8, ground := Go.Ground.guard }], guard := some (8, true) }) (v := .int .i64 (ll.length : Int)) rfl (by kernel_rfl) (by kernel_rfl) (by kernel_rfl) (fun _ _ _ h => h) (Or.inl ⟨by rfl, by intro w hSw; (try dsimp only at hSw); go_simp⟩) (by assumption) ?_
            simp only [Act.put, List.setIfInBounds_toArray, List.set_cons_zero, List.set_cons_succ]
            refine wpAnyH_take (i := 16) (oi := { dst := some 86, op := Go.Op.binOp Go.BinOp.eql 3 (Go.Operand.tmp 81) (Go.Operand.tmp 85) 3, type := 4, pos := "laws.go:232", after := #[{ on := 11, ground := Go.Ground.data }, { on := 15, ground := Go.Ground.data }, { on := 8, ground := Go.Ground.guard }], guard := some (8, true) }) (v := .bool true) rfl (by kernel_rfl) (by kernel_rfl) (by kernel_rfl) (fun _ _ _ h => h) (Or.inl ⟨by rfl, by intro w hSw; (try dsimp only at hSw); go_simp⟩) (by assumption) ?_
            simp only [Act.put, List.setIfInBounds_toArray, List.set_cons_zero, List.set_cons_succ]
            refine wpAnyH_take (i := 17) (oi := { dst := some 87, op := Go.Op.pick (Go.Operand.tmp 78) (Go.Operand.tmp 86) (Go.Operand.const (Go.Value.bool false)), type := 4, pos := "laws.go:232", after := #[{ on := 8, ground := Go.Ground.data }, { on := 16, ground := Go.Ground.data }], guard := none }) (v := .bool true) rfl (by kernel_rfl) (by kernel_rfl) (by kernel_rfl) (fun _ _ _ h => h) (Or.inl ⟨by rfl, by intro w hSw; (try dsimp only at hSw); go_simp⟩) (by assumption) ?_
            simp only [Act.put, List.setIfInBounds_toArray, List.set_cons_zero, List.set_cons_succ]
            refine wpAnyH_take (i := 18) (oi := { dst := some 88, op := Go.Op.move (Go.Operand.tmp 87), type := 4, pos := "laws.go:232", after := #[{ on := 17, ground := Go.Ground.data }, { on := 13, ground := Go.Ground.chain }], guard := none }) (v := .bool true) rfl (by kernel_rfl) (by kernel_rfl) (by kernel_rfl) (fun _ _ _ h => h) (Or.inl ⟨by rfl, by intro w hSw; (try dsimp only at hSw); go_simp⟩) (by assumption) ?_
            simp only [Act.put, List.setIfInBounds_toArray, List.set_cons_zero, List.set_cons_succ]
            refine wpAnyH_take (i := 19) (oi := { dst := some 89, op := Go.Op.fieldAddr 33 (Go.Operand.tmp 9) 1, type := 0, pos := "laws.go:232", after := #[{ on := 18, ground := Go.Ground.guard }], guard := some (18, true) }) (v := .pointer (some ⟨w7.heap.size, 1, none⟩)) rfl (by kernel_rfl) (by kernel_rfl) (by kernel_rfl) (fun _ _ _ h => h) (Or.inl ⟨by rfl, by intro w hSw; (try dsimp only at hSw); go_simp⟩) (by assumption) ?_
            simp only [Act.put, List.setIfInBounds_toArray, List.set_cons_zero, List.set_cons_succ]
            refine wpAnyH_take (i := 20) (oi := { dst := some 90, op := Go.Op.load 2 (Go.Operand.tmp 89), type := 2, pos := "laws.go:232", after := #[{ on := 19, ground := Go.Ground.data }, { on := 18, ground := Go.Ground.guard }], guard := some (18, true) }) (v := .int .i64 dv) rfl (by kernel_rfl) (by kernel_rfl) (by kernel_rfl) (fun _ _ _ h => h) (Or.inl ⟨by rfl, by intro w hSw; (try dsimp only at hSw); go_simp⟩) (by assumption) ?_
            simp only [Act.put, List.setIfInBounds_toArray, List.set_cons_zero, List.set_cons_succ]
            refine wpAnyH_take (i := 21) (oi := { dst := some 91, op := Go.Op.binOp Go.BinOp.geq 2 (Go.Operand.tmp 90) (Go.Operand.const (Go.Value.int Go.IntKind.i64 1)) 2, type := 4, pos := "laws.go:232", after := #[{ on := 20, ground := Go.Ground.data }, { on := 18, ground := Go.Ground.guard }], guard := some (18, true) }) (v := .bool true) rfl (by kernel_rfl) (by kernel_rfl) (by kernel_rfl) (fun _ _ _ h => h) (Or.inl ⟨by rfl, by intro w hSw; (try dsimp only at hSw); go_simp⟩) (by assumption) ?_
            simp only [Act.put, List.setIfInBounds_toArray, List.set_cons_zero, List.set_cons_succ]
            refine wpAnyH_take (i := 22) (oi := { dst := some 92, op := Go.Op.pick (Go.Operand.tmp 88) (Go.Operand.tmp 91) (Go.Operand.const (Go.Value.bool false)), type := 4, pos := "laws.go:232", after := #[{ on := 18, ground := Go.Ground.data }, { on := 21, ground := Go.Ground.data }], guard := none }) (v := .bool true) rfl (by kernel_rfl) (by kernel_rfl) (by kernel_rfl) (fun _ _ _ h => h) (Or.inl ⟨by rfl, by intro w hSw; (try dsimp only at hSw); go_simp⟩) (by assumption) ?_
            simp only [Act.put, List.setIfInBounds_toArray, List.set_cons_zero, List.set_cons_succ]
            refine wpAnyH_take (i := 23) (oi := { dst := some 93, op := Go.Op.move (Go.Operand.tmp 92), type := 4, pos := "laws.go:232", after := #[{ on := 22, ground := Go.Ground.data }, { on := 18, ground := Go.Ground.chain }], guard := none }) (v := .bool true) rfl (by kernel_rfl) (by kernel_rfl) (by kernel_rfl) (fun _ _ _ h => h) (Or.inl ⟨by rfl, by intro w hSw; (try dsimp only at hSw); go_simp⟩) (by assumption) ?_
            simp only [Act.put, List.setIfInBounds_toArray, List.set_cons_zero, List.set_cons_succ]
            refine wpAnyH_take (i := 24) (oi := { dst := some 94, op := Go.Op.fieldAddr 33 (Go.Operand.tmp 9) 1, type := 0, pos := "laws.go:232", after := #[{ on := 23, ground := Go.Ground.guard }], guard := some (23, true) }) (v := .pointer (some ⟨w7.heap.size, 1, none⟩)) rfl (by kernel_rfl) (by kernel_rfl) (by kernel_rfl) (fun _ _ _ h => h) (Or.inl ⟨by rfl, by intro w hSw; (try dsimp only at hSw); go_simp⟩) (by assumption) ?_
            simp only [Act.put, List.setIfInBounds_toArray, List.set_cons_zero, List.set_cons_succ]
            refine wpAnyH_take (i := 25) (oi := { dst := some 95, op := Go.Op.load 2 (Go.Operand.tmp 94), type := 2, pos := "laws.go:232", after := #[{ on := 24, ground := Go.Ground.data }, { on := 23, ground := Go.Ground.guard }], guard := some (23, true) }) (v := .int .i64 dv) rfl (by kernel_rfl) (by kernel_rfl) (by kernel_rfl) (fun _ _ _ h => h) (Or.inl ⟨by rfl, by intro w hSw; (try dsimp only at hSw); go_simp⟩) (by assumption) ?_
            simp only [Act.put, List.setIfInBounds_toArray, List.set_cons_zero, List.set_cons_succ]
            refine wpAnyH_take (i := 26) (oi := { dst := some 96, op := Go.Op.move (Go.Operand.tmp 3), type := 24, pos := "laws.go:232", after := #[{ on := 23, ground := Go.Ground.guard }], guard := some (23, true) }) (v := .slice au ss.length cu) rfl (by kernel_rfl) (by kernel_rfl) (by kernel_rfl) (fun _ _ _ h => h) (Or.inl ⟨by rfl, by intro w hSw; (try dsimp only at hSw); go_simp⟩) (by assumption) ?_
            simp only [Act.put, List.setIfInBounds_toArray, List.set_cons_zero, List.set_cons_succ]
            refine wpAnyH_ready (rs := [27]) (by kernel_rfl) (by simp) ?_
            refine AllReadyH.cons (o := { dst := some 97, op := Go.Op.call { callee := Go.Callee.value (Go.Operand.func 13), args := #[Go.Operand.tmp 96], argTypes := #[24] }, type := 33, pos := "laws.go:232", after := #[{ on := 26, ground := Go.Ground.data }, { on := 23, ground := Go.Ground.chain }, { on := 23, ground := Go.Ground.guard }], guard := some (23, true) }) rfl (fun K hK => ?_) AllReadyH.nil
            go_simp
            go_at_call 13
            refine (HSD.out _ (HBZ.out.trans (h2_.mono HBZ.out.size))).mono ?_
            rintro e wn3 ⟨rfl, hbx⟩
            have fq3 := fldD 0 dv
            have z3_0 := kept_cell hbx q2_0 z2_0
            have z3_1 := kept_cell hbx q2_1 z2_1
            have z3_2 := kept_cell hbx q2_1 z2_2
            have z3_3 := kept_cell hbx q2_3 z2_3
            have z3_4 := kept_cell hbx q2_4 z2_4
            have q3_0 := Nat.lt_of_lt_of_le q2_0 hbx.size
            have q3_1 := Nat.lt_of_lt_of_le q2_1 hbx.size
            have q3_3 := Nat.lt_of_lt_of_le q2_3 hbx.size
            have q3_4 := Nat.lt_of_lt_of_le q2_4 hbx.size
            have h3_ : Below wz.heap.size wz wn3 := h2_.trans (hbx.mono h2_.size)
            clear hbx
            go_wp2_with fail
            refine hK.out _ _ ⟨z3_0, z3_1, z3_2, z3_3, z3_4, h3_⟩ (fun hHeld => ?_)
            clear hK K
            try simp only [Act.put, List.setIfInBounds_toArray, List.set_cons_zero, List.set_cons_succ]
            refine wpAnyH_take (i := 28) (oi := { dst := some 98, op := Go.Op.field 33 (Go.Operand.tmp 97) 1, type := 2, pos := "laws.go:232", after := #[{ on := 27, ground := Go.Ground.data }, { on := 23, ground := Go.Ground.guard }], guard := some (23, true) }) (v := .int .i64 dv) rfl (by kernel_rfl) (by kernel_rfl) (by kernel_rfl) (fun _ _ _ h => h) (Or.inl ⟨by rfl, by intro w hSw; (try dsimp only at hSw); go_simp⟩) (by assumption) ?_
            simp only [Act.put, List.setIfInBounds_toArray, List.set_cons_zero, List.set_cons_succ]
            refine wpAnyH_take (i := 29) (oi := { dst := some 99, op := Go.Op.binOp Go.BinOp.eql 2 (Go.Operand.tmp 95) (Go.Operand.tmp 98) 2, type := 4, pos := "laws.go:232", after := #[{ on := 25, ground := Go.Ground.data }, { on := 28, ground := Go.Ground.data }, { on := 23, ground := Go.Ground.guard }], guard := some (23, true) }) (v := .bool true) rfl (by kernel_rfl) (by kernel_rfl) (by kernel_rfl) (fun _ _ _ h => h) (Or.inl ⟨by rfl, by intro w hSw; (try dsimp only at hSw); go_simp⟩) (by assumption) ?_
            simp only [Act.put, List.setIfInBounds_toArray, List.set_cons_zero, List.set_cons_succ]
            refine wpAnyH_take (i := 30) (oi := { dst := some 100, op := Go.Op.pick (Go.Operand.tmp 93) (Go.Operand.tmp 99) (Go.Operand.const (Go.Value.bool false)), type := 4, pos := "laws.go:232", after := #[{ on := 23, ground := Go.Ground.data }, { on := 29, ground := Go.Ground.data }], guard := none }) (v := .bool true) rfl (by kernel_rfl) (by kernel_rfl) (by kernel_rfl) (fun _ _ _ h => h) (Or.inl ⟨by rfl, by intro w hSw; (try dsimp only at hSw); go_simp⟩) (by assumption) ?_
            simp only [Act.put, List.setIfInBounds_toArray, List.set_cons_zero, List.set_cons_succ]
            refine wpAnyH_take (i := 31) (oi := { dst := some 101, op := Go.Op.move (Go.Operand.tmp 100), type := 4, pos := "laws.go:232", after := #[{ on := 30, ground := Go.Ground.data }, { on := 27, ground := Go.Ground.chain }], guard := none }) (v := .bool true) rfl (by kernel_rfl) (by kernel_rfl) (by kernel_rfl) (fun _ _ _ h => h) (Or.inl ⟨by rfl, by intro w hSw; (try dsimp only at hSw); go_simp⟩) (by assumption) ?_
            simp only [Act.put, List.setIfInBounds_toArray, List.set_cons_zero, List.set_cons_succ]
            refine wpAnyH_take (i := 32) (oi := { dst := some 102, op := Go.Op.fieldAddr 36 (Go.Operand.tmp 10) 1, type := 0, pos := "laws.go:232", after := #[{ on := 31, ground := Go.Ground.guard }], guard := some (31, true) }) (v := .pointer (some ⟨w9.heap.size, 1, none⟩)) rfl (by kernel_rfl) (by kernel_rfl) (by kernel_rfl) (fun _ _ _ h => h) (Or.inl ⟨by rfl, by intro w hSw; (try dsimp only at hSw); go_simp⟩) (by assumption) ?_
            simp only [Act.put, List.setIfInBounds_toArray, List.set_cons_zero, List.set_cons_succ]
            refine wpAnyH_take (i := 33) (oi := { dst := some 103, op := Go.Op.load 9 (Go.Operand.tmp 102), type := 9, pos := "laws.go:232", after := #[{ on := 32, ground := Go.Ground.data }, { on := 31, ground := Go.Ground.guard }], guard := some (31, true) }) (v := .string tx) rfl (by kernel_rfl) (by kernel_rfl) (by kernel_rfl) (fun _ _ _ h => h) (Or.inl ⟨by rfl, by intro w hSw; (try dsimp only at hSw); go_simp⟩) (by assumption) ?_
            simp only [Act.put, List.setIfInBounds_toArray, List.set_cons_zero, List.set_cons_succ]
            refine wpAnyH_take (i := 34) (oi := { dst := some 104, op := Go.Op.move (Go.Operand.tmp 3), type := 24, pos := "laws.go:232", after := #[{ on := 31, ground := Go.Ground.guard }], guard := some (31, true) }) (v := .slice au ss.length cu) rfl (by kernel_rfl) (by kernel_rfl) (by kernel_rfl) (fun _ _ _ h => h) (Or.inl ⟨by rfl, by intro w hSw; (try dsimp only at hSw); go_simp⟩) (by assumption) ?_
            simp only [Act.put, List.setIfInBounds_toArray, List.set_cons_zero, List.set_cons_succ]
            refine wpAnyH_ready (rs := [35]) (by kernel_rfl) (by simp) ?_
            refine AllReadyH.cons (o := { dst := some 105, op := Go.Op.call { callee := Go.Callee.value (Go.Operand.func 14), args := #[Go.Operand.tmp 104], argTypes := #[24] }, type := 36, pos := "laws.go:232", after := #[{ on := 34, ground := Go.Ground.data }, { on := 31, ground := Go.Ground.chain }, { on := 31, ground := Go.Ground.guard }], guard := some (31, true) }) rfl (fun K hK => ?_) AllReadyH.nil
            go_simp
            go_at_call 14
            refine (HST.out _ (HBZ.out.trans (h3_.mono HBZ.out.size))).mono ?_
            rintro e wn4 ⟨rfl, hbx⟩
            have fq4 := fldT 0 tx
            have z4_0 := kept_cell hbx q3_0 z3_0
            have z4_1 := kept_cell hbx q3_1 z3_1
            have z4_2 := kept_cell hbx q3_1 z3_2
            have z4_3 := kept_cell hbx q3_3 z3_3
            have z4_4 := kept_cell hbx q3_4 z3_4
            have q4_0 := Nat.lt_of_lt_of_le q3_0 hbx.size
            have q4_1 := Nat.lt_of_lt_of_le q3_1 hbx.size
            have q4_3 := Nat.lt_of_lt_of_le q3_3 hbx.size
            have q4_4 := Nat.lt_of_lt_of_le q3_4 hbx.size
            have h4_ : Below wz.heap.size wz wn4 := h3_.trans (hbx.mono h3_.size)
            clear hbx
            go_wp2_with fail
            refine hK.out _ _ ⟨z4_0, z4_1, z4_2, z4_3, z4_4, h4_⟩ (fun hHeld => ?_)
            clear hK K
            try simp only [Act.put, List.setIfInBounds_toArray, List.set_cons_zero, List.set_cons_succ]
            refine wpAnyH_take (i := 36) (oi := { dst := some 106, op := Go.Op.field 36 (Go.Operand.tmp 105) 1, type := 9, pos := "laws.go:232", after := #[{ on := 35, ground := Go.Ground.data }, { on := 31, ground := Go.Ground.guard }], guard := some (31, true) }) (v := .string tx) rfl (by kernel_rfl) (by kernel_rfl) (by kernel_rfl) (fun _ _ _ h => h) (Or.inl ⟨by rfl, by intro w hSw; (try dsimp only at hSw); go_simp⟩) (by assumption) ?_
            simp only [Act.put, List.setIfInBounds_toArray, List.set_cons_zero, List.set_cons_succ]
            refine wpAnyH_take (i := 37) (oi := { dst := some 107, op := Go.Op.binOp Go.BinOp.eql 9 (Go.Operand.tmp 103) (Go.Operand.tmp 106) 9, type := 4, pos := "laws.go:232", after := #[{ on := 33, ground := Go.Ground.data }, { on := 36, ground := Go.Ground.data }, { on := 31, ground := Go.Ground.guard }], guard := some (31, true) }) (v := .bool true) rfl (by kernel_rfl) (by kernel_rfl) (by kernel_rfl) (fun _ _ _ h => h) (Or.inl ⟨by rfl, by intro w hSw; (try dsimp only at hSw); go_simp⟩) (by assumption) ?_
            simp only [Act.put, List.setIfInBounds_toArray, List.set_cons_zero, List.set_cons_succ]
            refine wpAnyH_take (i := 38) (oi := { dst := some 108, op := Go.Op.pick (Go.Operand.tmp 101) (Go.Operand.tmp 107) (Go.Operand.const (Go.Value.bool false)), type := 4, pos := "laws.go:232", after := #[{ on := 31, ground := Go.Ground.data }, { on := 37, ground := Go.Ground.data }], guard := none }) (v := .bool true) rfl (by kernel_rfl) (by kernel_rfl) (by kernel_rfl) (fun _ _ _ h => h) (Or.inl ⟨by rfl, by intro w hSw; (try dsimp only at hSw); go_simp⟩) (by assumption) ?_
            simp only [Act.put, List.setIfInBounds_toArray, List.set_cons_zero, List.set_cons_succ]
            refine wpAnyH_take (i := 39) (oi := { dst := some 109, op := Go.Op.move (Go.Operand.tmp 108), type := 4, pos := "laws.go:232", after := #[{ on := 38, ground := Go.Ground.data }, { on := 35, ground := Go.Ground.chain }], guard := none }) (v := .bool true) rfl (by kernel_rfl) (by kernel_rfl) (by kernel_rfl) (fun _ _ _ h => h) (Or.inl ⟨by rfl, by intro w hSw; (try dsimp only at hSw); go_simp⟩) (by assumption) ?_
            simp only [Act.put, List.setIfInBounds_toArray, List.set_cons_zero, List.set_cons_succ]
            refine wpAnyH_take (i := 40) (oi := { dst := some 110, op := Go.Op.fieldAddr 29 (Go.Operand.tmp 5) 1, type := 0, pos := "laws.go:232", after := #[{ on := 39, ground := Go.Ground.guard }], guard := some (39, true) }) (v := .pointer (some ⟨w2.heap.size, 1, none⟩)) rfl (by kernel_rfl) (by kernel_rfl) (by kernel_rfl) (fun _ _ _ h => h) (Or.inl ⟨by rfl, by intro w hSw; (try dsimp only at hSw); go_simp⟩) (by assumption) ?_
            simp only [Act.put, List.setIfInBounds_toArray, List.set_cons_zero, List.set_cons_succ]
            refine wpAnyH_take (i := 41) (oi := { dst := some 111, op := Go.Op.load 27 (Go.Operand.tmp 110), type := 27, pos := "laws.go:232", after := #[{ on := 40, ground := Go.Ground.data }, { on := 39, ground := Go.Ground.guard }], guard := some (39, true) }) (v := .slice a2 ul.length c2) rfl (by kernel_rfl) (by kernel_rfl) (by kernel_rfl) (fun _ _ _ h => h) (Or.inl ⟨by rfl, by intro w hSw; (try dsimp only at hSw); go_simp⟩) (by assumption) ?_
            simp only [Act.put, List.setIfInBounds_toArray, List.set_cons_zero, List.set_cons_succ]
            refine wpAnyH_take (i := 42) (oi := { dst := some 112, op := Go.Op.call { callee := Go.Callee.builtin Go.Builtin.len, args := #[Go.Operand.tmp 111], argTypes := #[27] }, type := 3, pos := "laws.go:232", after := #[{ on := 41, ground := Go.Ground.data }, { on := 39, ground := Go.Ground.guard }], guard := some (39, true) }) (v := .int .i64 (ul.length : Int)) rfl (by kernel_rfl) (by kernel_rfl) (by kernel_rfl) (fun _ _ _ h => h) (Or.inl ⟨by rfl, by intro w hSw; (try dsimp only at hSw); go_simp⟩) (by assumption) ?_
            simp only [Act.put, List.setIfInBounds_toArray, List.set_cons_zero, List.set_cons_succ]
            refine wpAnyH_take (i := 43) (oi := { dst := some 113, op := Go.Op.move (Go.Operand.tmp 3), type := 24, pos := "laws.go:232", after := #[{ on := 39, ground := Go.Ground.guard }], guard := some (39, true) }) (v := .slice au ss.length cu) rfl (by kernel_rfl) (by kernel_rfl) (by kernel_rfl) (fun _ _ _ h => h) (Or.inl ⟨by rfl, by intro w hSw; (try dsimp only at hSw); go_simp⟩) (by assumption) ?_
            simp only [Act.put, List.setIfInBounds_toArray, List.set_cons_zero, List.set_cons_succ]
            refine wpAnyH_take (i := 44) (oi := { dst := some 114, op := Go.Op.move (Go.Operand.tmp 4), type := 2, pos := "laws.go:232", after := #[{ on := 39, ground := Go.Ground.guard }], guard := some (39, true) }) (v := .int .i64 (k : Int)) rfl (by kernel_rfl) (by kernel_rfl) (by kernel_rfl) (fun _ _ _ h => h) (Or.inl ⟨by rfl, by intro w hSw; (try dsimp only at hSw); go_simp⟩) (by assumption) ?_
            simp only [Act.put, List.setIfInBounds_toArray, List.set_cons_zero, List.set_cons_succ]
            refine wpAnyH_ready (rs := [45]) (by kernel_rfl) (by simp) ?_
            refine AllReadyH.cons (o := { dst := some 115, op := Go.Op.call { callee := Go.Callee.value (Go.Operand.func 7), args := #[Go.Operand.tmp 113, Go.Operand.tmp 114], argTypes := #[24, 2] }, type := 29, pos := "laws.go:232", after := #[{ on := 43, ground := Go.Ground.data }, { on := 44, ground := Go.Ground.data }, { on := 39, ground := Go.Ground.chain }, { on := 39, ground := Go.Ground.guard }], guard := some (39, true) }) rfl (fun K hK => ?_) AllReadyH.nil
            go_simp
            go_at_call 7
            refine (HSU1.out _ (HBZ.out.trans (h4_.mono HBZ.out.size))).mono ?_
            rintro e wn5 ⟨⟨ux, rfl, hox⟩, hbx⟩
            obtain ⟨ax5, cx5, rfl⟩ := Ints.owns_slice hox
            clear hox
            have fq5 := fldL 0 (.slice ax5 ul.length cx5)
            have z5_0 := kept_cell hbx q4_0 z4_0
            have z5_1 := kept_cell hbx q4_1 z4_1
            have z5_2 := kept_cell hbx q4_1 z4_2
            have z5_3 := kept_cell hbx q4_3 z4_3
            have z5_4 := kept_cell hbx q4_4 z4_4
            have q5_0 := Nat.lt_of_lt_of_le q4_0 hbx.size
            have q5_1 := Nat.lt_of_lt_of_le q4_1 hbx.size
            have q5_3 := Nat.lt_of_lt_of_le q4_3 hbx.size
            have q5_4 := Nat.lt_of_lt_of_le q4_4 hbx.size
            have h5_ : Below wz.heap.size wz wn5 := h4_.trans (hbx.mono h4_.size)
            clear hbx
            go_wp2_with fail
            refine hK.out _ _ ⟨z5_0, z5_1, z5_2, z5_3, z5_4, h5_⟩ (fun hHeld => ?_)
            clear hK K
            try simp only [Act.put, List.setIfInBounds_toArray, List.set_cons_zero, List.set_cons_succ]
            refine wpAnyH_take (i := 46) (oi := { dst := some 116, op := Go.Op.field 29 (Go.Operand.tmp 115) 1, type := 27, pos := "laws.go:232", after := #[{ on := 45, ground := Go.Ground.data }, { on := 39, ground := Go.Ground.guard }], guard := some (39, true) }) (v := .slice ax5 ul.length cx5) rfl (by kernel_rfl) (by kernel_rfl) (by kernel_rfl) (fun _ _ _ h => h) (Or.inl ⟨by rfl, by intro w hSw; (try dsimp only at hSw); go_simp⟩) (by assumption) ?_
            simp only [Act.put, List.setIfInBounds_toArray, List.set_cons_zero, List.set_cons_succ]
            refine wpAnyH_take (i := 47) (oi := { dst := some 117, op := Go.Op.call { callee := Go.Callee.builtin Go.Builtin.len, args := #[Go.Operand.tmp 116], argTypes := #[27] }, type := 3, pos := "laws.go:232", after := #[{ on := 46, ground := Go.Ground.data }, { on := 39, ground := Go.Ground.guard }], guard := some (39, true) }) (v := .int .i64 (ul.length : Int)) rfl (by kernel_rfl) (by kernel_rfl) (by kernel_rfl) (fun _ _ _ h => h) (Or.inl ⟨by rfl, by intro w hSw; (try dsimp only at hSw); go_simp⟩) (by assumption) ?_
            simp only [Act.put, List.setIfInBounds_toArray, List.set_cons_zero, List.set_cons_succ]
            refine wpAnyH_take (i := 48) (oi := { dst := some 118, op := Go.Op.binOp Go.BinOp.eql 3 (Go.Operand.tmp 112) (Go.Operand.tmp 117) 3, type := 4, pos := "laws.go:232", after := #[{ on := 42, ground := Go.Ground.data }, { on := 47, ground := Go.Ground.data }, { on := 39, ground := Go.Ground.guard }], guard := some (39, true) }) (v := .bool true) rfl (by kernel_rfl) (by kernel_rfl) (by kernel_rfl) (fun _ _ _ h => h) (Or.inl ⟨by rfl, by intro w hSw; (try dsimp only at hSw); go_simp⟩) (by assumption) ?_
            simp only [Act.put, List.setIfInBounds_toArray, List.set_cons_zero, List.set_cons_succ]
            refine wpAnyH_take (i := 49) (oi := { dst := some 119, op := Go.Op.pick (Go.Operand.tmp 109) (Go.Operand.tmp 118) (Go.Operand.const (Go.Value.bool false)), type := 4, pos := "laws.go:232", after := #[{ on := 39, ground := Go.Ground.data }, { on := 48, ground := Go.Ground.data }], guard := none }) (v := .bool true) rfl (by kernel_rfl) (by kernel_rfl) (by kernel_rfl) (fun _ _ _ h => h) (Or.inl ⟨by rfl, by intro w hSw; (try dsimp only at hSw); go_simp⟩) (by assumption) ?_
            simp only [Act.put, List.setIfInBounds_toArray, List.set_cons_zero, List.set_cons_succ]
            refine wpAnyH_take (i := 50) (oi := { dst := some 120, op := Go.Op.move (Go.Operand.tmp 119), type := 4, pos := "laws.go:232", after := #[{ on := 49, ground := Go.Ground.data }, { on := 45, ground := Go.Ground.chain }], guard := none }) (v := .bool true) rfl (by kernel_rfl) (by kernel_rfl) (by kernel_rfl) (fun _ _ _ h => h) (Or.inl ⟨by rfl, by intro w hSw; (try dsimp only at hSw); go_simp⟩) (by assumption) ?_
            simp only [Act.put, List.setIfInBounds_toArray, List.set_cons_zero, List.set_cons_succ]
            refine wpAnyH_take (i := 51) (oi := { dst := some 121, op := Go.Op.move (Go.Operand.tmp 3), type := 24, pos := "laws.go:232", after := #[{ on := 50, ground := Go.Ground.guard }], guard := some (50, true) }) (v := .slice au ss.length cu) rfl (by kernel_rfl) (by kernel_rfl) (by kernel_rfl) (fun _ _ _ h => h) (Or.inl ⟨by rfl, by intro w hSw; (try dsimp only at hSw); go_simp⟩) (by assumption) ?_
            simp only [Act.put, List.setIfInBounds_toArray, List.set_cons_zero, List.set_cons_succ]
            refine wpAnyH_take (i := 52) (oi := { dst := some 122, op := Go.Op.move (Go.Operand.tmp 3), type := 24, pos := "laws.go:232", after := #[{ on := 50, ground := Go.Ground.guard }], guard := some (50, true) }) (v := .slice au ss.length cu) rfl (by kernel_rfl) (by kernel_rfl) (by kernel_rfl) (fun _ _ _ h => h) (Or.inl ⟨by rfl, by intro w hSw; (try dsimp only at hSw); go_simp⟩) (by assumption) ?_
            simp only [Act.put, List.setIfInBounds_toArray, List.set_cons_zero, List.set_cons_succ]
            refine wpAnyH_ready (rs := [53]) (by kernel_rfl) (by simp) ?_
            refine AllReadyH.cons (o := { dst := some 123, op := Go.Op.call { callee := Go.Callee.value (Go.Operand.func 15), args := #[Go.Operand.tmp 121, Go.Operand.tmp 122], argTypes := #[24, 24] }, type := 4, pos := "laws.go:232", after := #[{ on := 51, ground := Go.Ground.data }, { on := 52, ground := Go.Ground.data }, { on := 50, ground := Go.Ground.chain }, { on := 50, ground := Go.Ground.guard }], guard := some (50, true) }) rfl (fun K hK => ?_) AllReadyH.nil
            go_simp
            go_at_call 15
            refine (HSP.out _ (HBZ.out.trans (h5_.mono HBZ.out.size))).mono ?_
            rintro e wn6 ⟨rfl, hbx⟩
            have z6_0 := kept_cell hbx q5_0 z5_0
            have z6_1 := kept_cell hbx q5_1 z5_1
            have z6_2 := kept_cell hbx q5_1 z5_2
            have z6_3 := kept_cell hbx q5_3 z5_3
            have z6_4 := kept_cell hbx q5_4 z5_4
            have q6_0 := Nat.lt_of_lt_of_le q5_0 hbx.size
            have q6_1 := Nat.lt_of_lt_of_le q5_1 hbx.size
            have q6_3 := Nat.lt_of_lt_of_le q5_3 hbx.size
            have q6_4 := Nat.lt_of_lt_of_le q5_4 hbx.size
            have h6_ : Below wz.heap.size wz wn6 := h5_.trans (hbx.mono h5_.size)
            clear hbx
            go_wp2_with fail
            refine hK.out _ _ ⟨z6_0, z6_1, z6_2, z6_3, z6_4, h6_⟩ (fun hHeld => ?_)
            clear hK K
            try simp only [Act.put, List.setIfInBounds_toArray, List.set_cons_zero, List.set_cons_succ]
            refine wpAnyH_take (i := 54) (oi := { dst := some 124, op := Go.Op.pick (Go.Operand.tmp 120) (Go.Operand.tmp 123) (Go.Operand.const (Go.Value.bool false)), type := 4, pos := "laws.go:232", after := #[{ on := 50, ground := Go.Ground.data }, { on := 53, ground := Go.Ground.data }], guard := none }) (v := .bool true) rfl (by kernel_rfl) (by kernel_rfl) (by kernel_rfl) (fun _ _ _ h => h) (Or.inl ⟨by rfl, by intro w hSw; (try dsimp only at hSw); go_simp⟩) (by assumption) ?_
            simp only [Act.put, List.setIfInBounds_toArray, List.set_cons_zero, List.set_cons_succ]
            refine wpAnyH_take (i := 55) (oi := { dst := some 125, op := Go.Op.move (Go.Operand.tmp 124), type := 4, pos := "laws.go:232", after := #[{ on := 54, ground := Go.Ground.data }, { on := 53, ground := Go.Ground.chain }], guard := none }) (v := .bool true) rfl (by kernel_rfl) (by kernel_rfl) (by kernel_rfl) (fun _ _ _ h => h) (Or.inl ⟨by rfl, by intro w hSw; (try dsimp only at hSw); go_simp⟩) (by assumption) ?_
            simp only [Act.put, List.setIfInBounds_toArray, List.set_cons_zero, List.set_cons_succ]
            refine wpAnyH_take (i := 56) (oi := { dst := some 126, op := Go.Op.move (Go.Operand.tmp 3), type := 24, pos := "laws.go:232", after := #[{ on := 55, ground := Go.Ground.guard }], guard := some (55, true) }) (v := .slice au ss.length cu) rfl (by kernel_rfl) (by kernel_rfl) (by kernel_rfl) (fun _ _ _ h => h) (Or.inl ⟨by rfl, by intro w hSw; (try dsimp only at hSw); go_simp⟩) (by assumption) ?_
            simp only [Act.put, List.setIfInBounds_toArray, List.set_cons_zero, List.set_cons_succ]
            refine wpAnyH_take (i := 60) (oi := { dst := some 130, op := Go.Op.move (Go.Operand.tmp 3), type := 24, pos := "laws.go:232", after := #[{ on := 55, ground := Go.Ground.guard }], guard := some (55, true) }) (v := .slice au ss.length cu) rfl (by kernel_rfl) (by kernel_rfl) (by kernel_rfl) (fun _ _ _ h => h) (Or.inl ⟨by rfl, by intro w hSw; (try dsimp only at hSw); go_simp⟩) (by assumption) ?_
            simp only [Act.put, List.setIfInBounds_toArray, List.set_cons_zero, List.set_cons_succ]
            refine wpAnyH_take (i := 61) (oi := { dst := some 131, op := Go.Op.call { callee := Go.Callee.builtin Go.Builtin.len, args := #[Go.Operand.tmp 130], argTypes := #[24] }, type := 3, pos := "laws.go:232", after := #[{ on := 60, ground := Go.Ground.data }, { on := 55, ground := Go.Ground.guard }], guard := some (55, true) }) (v := .int .i64 (ss.length : Int)) rfl (by kernel_rfl) (by kernel_rfl) (by kernel_rfl) (fun _ _ _ h => h) (Or.inl ⟨by rfl, by intro w hSw; (try dsimp only at hSw); go_simp⟩) (by assumption) ?_
            simp only [Act.put, List.setIfInBounds_toArray, List.set_cons_zero, List.set_cons_succ]
            refine wpAnyH_ready (rs := [57]) (by kernel_rfl) (by simp) ?_
            refine AllReadyH.cons (o := { dst := some 127, op := Go.Op.call { callee := Go.Callee.value (Go.Operand.func 6), args := #[Go.Operand.tmp 126, Go.Operand.const (Go.Value.int Go.IntKind.i64 0)], argTypes := #[24, 2] }, type := 29, pos := "laws.go:232", after := #[{ on := 56, ground := Go.Ground.data }, { on := 55, ground := Go.Ground.chain }, { on := 55, ground := Go.Ground.guard }], guard := some (55, true) }) rfl (fun K hK => ?_) AllReadyH.nil
            go_simp
            go_at_call 6
            refine (HIU0.out _ (HBZ.out.trans (h6_.mono HBZ.out.size))).mono ?_
            rintro e wn7 ⟨⟨ux, rfl, hox⟩, hbx⟩
            obtain ⟨ax7, cx7, rfl⟩ := Ints.owns_slice hox
            clear hox
            have fq7 := fldL 0 (.slice ax7 u0.length cx7)
            have z7_0 := kept_cell hbx q6_0 z6_0
            have z7_1 := kept_cell hbx q6_1 z6_1
            have z7_2 := kept_cell hbx q6_1 z6_2
            have z7_3 := kept_cell hbx q6_3 z6_3
            have z7_4 := kept_cell hbx q6_4 z6_4
            have q7_0 := Nat.lt_of_lt_of_le q6_0 hbx.size
            have q7_1 := Nat.lt_of_lt_of_le q6_1 hbx.size
            have q7_3 := Nat.lt_of_lt_of_le q6_3 hbx.size
            have q7_4 := Nat.lt_of_lt_of_le q6_4 hbx.size
            have h7_ : Below wz.heap.size wz wn7 := h6_.trans (hbx.mono h6_.size)
            clear hbx
            go_wp2_with fail
            refine hK.out _ _ ⟨z7_0, z7_1, z7_2, z7_3, z7_4, h7_⟩ (fun hHeld => ?_)
            clear hK K
            try simp only [Act.put, List.setIfInBounds_toArray, List.set_cons_zero, List.set_cons_succ]
            refine wpAnyH_take (i := 58) (oi := { dst := some 128, op := Go.Op.field 29 (Go.Operand.tmp 127) 1, type := 27, pos := "laws.go:232", after := #[{ on := 57, ground := Go.Ground.data }, { on := 55, ground := Go.Ground.guard }], guard := some (55, true) }) (v := .slice ax7 u0.length cx7) rfl (by kernel_rfl) (by kernel_rfl) (by kernel_rfl) (fun _ _ _ h => h) (Or.inl ⟨by rfl, by intro w hSw; (try dsimp only at hSw); go_simp⟩) (by assumption) ?_
            simp only [Act.put, List.setIfInBounds_toArray, List.set_cons_zero, List.set_cons_succ]
            refine wpAnyH_take (i := 59) (oi := { dst := some 129, op := Go.Op.call { callee := Go.Callee.builtin Go.Builtin.len, args := #[Go.Operand.tmp 128], argTypes := #[27] }, type := 3, pos := "laws.go:232", after := #[{ on := 58, ground := Go.Ground.data }, { on := 55, ground := Go.Ground.guard }], guard := some (55, true) }) (v := .int .i64 (u0.length : Int)) rfl (by kernel_rfl) (by kernel_rfl) (by kernel_rfl) (fun _ _ _ h => h) (Or.inl ⟨by rfl, by intro w hSw; (try dsimp only at hSw); go_simp⟩) (by assumption) ?_
            simp only [Act.put, List.setIfInBounds_toArray, List.set_cons_zero, List.set_cons_succ]
            refine wpAnyH_take (i := 62) (oi := { dst := some 132, op := Go.Op.binOp Go.BinOp.eql 3 (Go.Operand.tmp 129) (Go.Operand.tmp 131) 3, type := 4, pos := "laws.go:232", after := #[{ on := 59, ground := Go.Ground.data }, { on := 61, ground := Go.Ground.data }, { on := 55, ground := Go.Ground.guard }], guard := some (55, true) }) (v := .bool true) rfl (by kernel_rfl) (by kernel_rfl) (by kernel_rfl) (fun _ _ _ h => h) (Or.inl ⟨by rfl, by intro w hSw; (try dsimp only at hSw); go_simp⟩) (by assumption) ?_
            simp only [Act.put, List.setIfInBounds_toArray, List.set_cons_zero, List.set_cons_succ]
            refine wpAnyH_take (i := 63) (oi := { dst := some 133, op := Go.Op.pick (Go.Operand.tmp 125) (Go.Operand.tmp 132) (Go.Operand.const (Go.Value.bool false)), type := 4, pos := "laws.go:232", after := #[{ on := 55, ground := Go.Ground.data }, { on := 62, ground := Go.Ground.data }], guard := none }) (v := .bool true) rfl (by kernel_rfl) (by kernel_rfl) (by kernel_rfl) (fun _ _ _ h => h) (Or.inl ⟨by rfl, by intro w hSw; (try dsimp only at hSw); go_simp⟩) (by assumption) ?_
            simp only [Act.put, List.setIfInBounds_toArray, List.set_cons_zero, List.set_cons_succ]
            refine wpAnyH_take (i := 64) (oi := { dst := some 2, op := Go.Op.assign (Go.Operand.tmp 133), type := 4, pos := "laws.go:232", after := ([{ on := 63, ground := Go.Ground.data }, { on := 57, ground := Go.Ground.chain }, { on := 0, ground := Go.Ground.phase }, { on := 1, ground := Go.Ground.phase }, { on := 2, ground := Go.Ground.phase }, { on := 3, ground := Go.Ground.phase }, { on := 4, ground := Go.Ground.phase }, { on := 5, ground := Go.Ground.phase }, { on := 6, ground := Go.Ground.phase }, { on := 7, ground := Go.Ground.phase }, { on := 8, ground := Go.Ground.phase }, { on := 9, ground := Go.Ground.phase }, { on := 10, ground := Go.Ground.phase }, { on := 11, ground := Go.Ground.phase }, { on := 12, ground := Go.Ground.phase }, { on := 13, ground := Go.Ground.phase }, { on := 14, ground := Go.Ground.phase }, { on := 15, ground := Go.Ground.phase }, { on := 16, ground := Go.Ground.phase }, { on := 17, ground := Go.Ground.phase }, { on := 18, ground := Go.Ground.phase }, { on := 19, ground := Go.Ground.phase }, { on := 20, ground := Go.Ground.phase }, { on := 21, ground := Go.Ground.phase }, { on := 22, ground := Go.Ground.phase }, { on := 23, ground := Go.Ground.phase }, { on := 24, ground := Go.Ground.phase }, { on := 25, ground := Go.Ground.phase }, { on := 26, ground := Go.Ground.phase }, { on := 27, ground := Go.Ground.phase }, { on := 28, ground := Go.Ground.phase }, { on := 29, ground := Go.Ground.phase }, { on := 30, ground := Go.Ground.phase }].append [{ on := 31, ground := Go.Ground.phase }, { on := 32, ground := Go.Ground.phase }, { on := 33, ground := Go.Ground.phase }, { on := 34, ground := Go.Ground.phase }, { on := 35, ground := Go.Ground.phase }, { on := 36, ground := Go.Ground.phase }, { on := 37, ground := Go.Ground.phase }, { on := 38, ground := Go.Ground.phase }, { on := 39, ground := Go.Ground.phase }, { on := 40, ground := Go.Ground.phase }, { on := 41, ground := Go.Ground.phase }, { on := 42, ground := Go.Ground.phase }, { on := 43, ground := Go.Ground.phase }, { on := 44, ground := Go.Ground.phase }, { on := 45, ground := Go.Ground.phase }, { on := 46, ground := Go.Ground.phase }, { on := 47, ground := Go.Ground.phase }, { on := 48, ground := Go.Ground.phase }, { on := 49, ground := Go.Ground.phase }, { on := 50, ground := Go.Ground.phase }, { on := 51, ground := Go.Ground.phase }, { on := 52, ground := Go.Ground.phase }, { on := 53, ground := Go.Ground.phase }, { on := 54, ground := Go.Ground.phase }, { on := 55, ground := Go.Ground.phase }, { on := 56, ground := Go.Ground.phase }, { on := 57, ground := Go.Ground.phase }, { on := 58, ground := Go.Ground.phase }, { on := 59, ground := Go.Ground.phase }, { on := 60, ground := Go.Ground.phase }, { on := 61, ground := Go.Ground.phase }, { on := 62, ground := Go.Ground.phase }, { on := 63, ground := Go.Ground.phase }]).toArray, guard := none }) (v := .bool true) rfl (by kernel_rfl) (by kernel_rfl) (by kernel_rfl) (fun _ _ _ h => h) (Or.inl ⟨by rfl, by intro w hSw; (try dsimp only at hSw); go_simp⟩) (by assumption) ?_
            simp only [Act.put, List.setIfInBounds_toArray, List.set_cons_zero, List.set_cons_succ]
            refine wpAnyH_done (by kernel_rfl) ?_ _
            go_wp2
            go_ret
            exact ⟨rfl, HB1.out.trans ((HBZ.out.trans (h7_.mono HBZ.out.size)).mono HB1.out.size)⟩
  · have b1 : (uc != 0) = true := bne_iff_ne.2 hu
    have b3 : (uc == uc) = true := by simp
    clear hu HZE
    have f1 := fldI uc
    go_wp2_with fail
    generalize (w2.alloc (.cells #[.int .i64 uc, .slice a2 ul.length c2] 29)) = w3 at *
    have t0 : w3.drew.cell? ⟨w2.heap.size, 0, none⟩ = some (.int .i64 uc) := c0
    have hB3d : Below w3.heap.size w3 w3.drew := (Below.refl _ w3).drew
    refine wp_region_held_drew (S := fun wx => wx.cell? ⟨w2.heap.size, 0, none⟩ = some (.int .i64 uc) ∧ Below w3.heap.size w3 wx) (by kernel_rfl) ⟨t0, hB3d⟩ (fun hHeld => ?_)
    refine wpAnyH_take (i := 0) (oi := { dst := some 24, op := Go.Op.move (Go.Operand.tmp 3), type := 24, pos := "laws.go:217", after := #[], guard := none }) (v := .slice au ss.length cu) rfl (by kernel_rfl) (by kernel_rfl) (by kernel_rfl) (fun _ _ _ h => h) (Or.inl ⟨by rfl, by intro w hSw; (try dsimp only at hSw); go_simp⟩) (by assumption) ?_
    simp only [Act.put, List.setIfInBounds_toArray, List.set_cons_zero, List.set_cons_succ]
    refine wpAnyH_take (i := 1) (oi := { dst := some 25, op := Go.Op.move (Go.Operand.tmp 4), type := 2, pos := "laws.go:217", after := #[], guard := none }) (v := .int .i64 at') rfl (by kernel_rfl) (by kernel_rfl) (by kernel_rfl) (fun _ _ _ h => h) (Or.inl ⟨by rfl, by intro w hSw; (try dsimp only at hSw); go_simp⟩) (by assumption) ?_
    simp only [Act.put, List.setIfInBounds_toArray, List.set_cons_zero, List.set_cons_succ]
    refine wpAnyH_take (i := 4) (oi := { dst := some 28, op := Go.Op.fieldAddr 29 (Go.Operand.tmp 5) 0, type := 0, pos := "laws.go:217", after := #[], guard := none }) (v := .pointer (some ⟨w2.heap.size, 0, none⟩)) rfl (by kernel_rfl) (by kernel_rfl) (by kernel_rfl) (fun _ _ _ h => h) (Or.inl ⟨by rfl, by intro w hSw; (try dsimp only at hSw); go_simp⟩) (by assumption) ?_
    simp only [Act.put, List.setIfInBounds_toArray, List.set_cons_zero, List.set_cons_succ]
    refine wpAnyH_take (i := 5) (oi := { dst := some 29, op := Go.Op.load 2 (Go.Operand.tmp 28), type := 2, pos := "laws.go:217", after := #[{ on := 4, ground := Go.Ground.data }], guard := none }) (v := .int .i64 uc) rfl (by kernel_rfl) (by kernel_rfl) (by kernel_rfl) (fun _ _ _ h => h) (Or.inl ⟨by rfl, by intro w hSw; (try dsimp only at hSw); go_simp⟩) (by assumption) ?_
    simp only [Act.put, List.setIfInBounds_toArray, List.set_cons_zero, List.set_cons_succ]
    refine wpAnyH_ready (rs := [2]) (by kernel_rfl) (by simp) ?_
    refine AllReadyH.cons (o := { dst := some 26, op := Go.Op.call { callee := Go.Callee.value (Go.Operand.func 7), args := #[Go.Operand.tmp 24, Go.Operand.tmp 25], argTypes := #[24, 2] }, type := 29, pos := "laws.go:217", after := #[{ on := 0, ground := Go.Ground.data }, { on := 1, ground := Go.Ground.data }], guard := none }) rfl (fun K hK => ?_) AllReadyH.nil
    go_simp
    go_at_call 7
    refine (HSU1.out _ (HB3.out.trans (hB3d.mono HB3.out.size))).mono ?_
    rintro e w10 ⟨⟨u10, rfl, ho10⟩, hb10⟩
    obtain ⟨a10, c10, rfl⟩ := Ints.owns_slice ho10
    have g0 := kept_cell hb10 hz3 t0
    have hB10 : Below w3.heap.size w3 w10 := hB3d.trans hb10
    clear hb10 ho10
    go_wp2_with fail
    refine hK.out _ _ ⟨g0, hB10⟩ (fun hHeld => ?_)
    clear hK K
    try simp only [Act.put, List.setIfInBounds_toArray, List.set_cons_zero, List.set_cons_succ]
    refine wpAnyH_take (i := 3) (oi := { dst := some 27, op := Go.Op.field 29 (Go.Operand.tmp 26) 0, type := 2, pos := "laws.go:217", after := #[{ on := 2, ground := Go.Ground.data }], guard := none }) (v := .int .i64 uc) rfl (by kernel_rfl) (by kernel_rfl) (by kernel_rfl) (fun _ _ _ h => h) (Or.inl ⟨by rfl, by intro w hSw; (try dsimp only at hSw); go_simp⟩) (by assumption) ?_
    simp only [Act.put, List.setIfInBounds_toArray, List.set_cons_zero, List.set_cons_succ]
    refine wpAnyH_take (i := 6) (oi := { dst := some 30, op := Go.Op.binOp Go.BinOp.eql 2 (Go.Operand.tmp 27) (Go.Operand.tmp 29) 2, type := 4, pos := "laws.go:217", after := #[{ on := 3, ground := Go.Ground.data }, { on := 5, ground := Go.Ground.data }], guard := none }) (v := .bool true) rfl (by kernel_rfl) (by kernel_rfl) (by kernel_rfl) (fun _ _ _ h => h) (Or.inl ⟨by rfl, by intro w hSw; (try dsimp only at hSw); go_simp⟩) (by assumption) ?_
    simp only [Act.put, List.setIfInBounds_toArray, List.set_cons_zero, List.set_cons_succ]
    refine wpAnyH_take (i := 7) (oi := { dst := some 2, op := Go.Op.assign (Go.Operand.tmp 30), type := 4, pos := "laws.go:217", after := #[{ on := 6, ground := Go.Ground.data }, { on := 2, ground := Go.Ground.chain }, { on := 0, ground := Go.Ground.phase }, { on := 1, ground := Go.Ground.phase }, { on := 2, ground := Go.Ground.phase }, { on := 3, ground := Go.Ground.phase }, { on := 4, ground := Go.Ground.phase }, { on := 5, ground := Go.Ground.phase }, { on := 6, ground := Go.Ground.phase }], guard := none }) (v := .bool true) rfl (by kernel_rfl) (by kernel_rfl) (by kernel_rfl) (fun _ _ _ h => h) (Or.inl ⟨by rfl, by intro w hSw; (try dsimp only at hSw); go_simp⟩) (by assumption) ?_
    simp only [Act.put, List.setIfInBounds_toArray, List.set_cons_zero, List.set_cons_succ]
    refine wpAnyH_done (by kernel_rfl) ?_ _
    go_wp2
    go_ret
    exact ⟨rfl, HB1.out.trans ((HB3.out.trans (hB10.mono HB3.out.size)).mono HB1.out.size)⟩
set_option maxRecDepth 100000 in
theorem contract (H : Type) (enc : TypeId × Value → H) (W : World) (base : Nat) (args : Array Value) (ds gs : List (DataW H)) (before : List MemPlace)
    (hval : ∀ (j : Nat) t v, Tryz.f3.params[j]? = some t → args[j]? = some v → Value.okWide Tryz.prog W .any base t v)
    (hW : DataW.Whole enc Tryz.prog Tryz.f3.params.toList Rows.fnProcsSpec.vars false W args.toList ds gs before) (hL : laidMetH Tryz.prog Rows.fnProcsRow.laid W) :
    Calls Tryz.prog 3 args W fun e W' => ∃ v, e = .returned v ∧ Rows.fnProcsSpec.post enc Tryz.prog Tryz.f3 false true false false W args v W' := by
  have hent := Crd.rul_in hL (by kernel_rfl)
  have htab := Crd.tab_of hL (by kernel_rfl)
  have hW' := hW
  obtain ⟨p, q, hA0, hV, rfl, hfz, hnd⟩ := hW
  have hA : DataW.TrodAll enc Tryz.prog W 0 (fun _ => true) true Tryz.f3.params.toList args.toList ds p := hA0
  rw [Tryz.params3] at hA hval
  obtain ⟨v0, vs0, d0, ds0, p0, q0, hargs, rfl, rfl, h0, r0⟩ := trodAll_cons hA
  obtain ⟨rfl, rfl, rfl⟩ := trodAll_nil r0
  obtain rfl : args = #[v0] := by cases args; simp_all
  obtain ⟨a0, len0, cap0, rfl⟩ := okWide_slice Tryz.underlying22 (hval 0 22 v0 rfl rfl)
  have k0 := h0
  have lt0 : ∀ x ∈ p0, x.block < W.heap.size := by obtain ⟨m, hm⟩ := k0; exact DataW.trod_lt m _ _ _ hm
  obtain ⟨ga0, gc0⟩ : Drw.CodeAt W.heap.size W a0 len0 ∧ len0 ≤ maxLen := by
    obtain ⟨fuel, hf⟩ := h0
    exact Drw.open_code (by simpa [Value.cells] using hf)
  clear hA0
  refine (walk a0 len0 cap0 W gc0 ga0 hent htab).mono fun e W' ⟨he, bel⟩ => ?_
  subst he
  have hV0 := hV
  obtain ⟨g, t, cs, fuel, dv, pv, rfl, hg, ht, hvar, hd, rfl⟩ := trodVars_one hV
  have hv' := Below.trodVars Crd.laidOut bel (ns := Rows.fnProcsSpec.vars) (by kernel_rfl) hV0
  exact ⟨_, rfl, _, _, _, [], _, _, hW', trodAll_mk1 (shut_bool Tryz.underlying4 _), (trodAll_cons_mk (Below.trod Crd.laidOut (by kernel_rfl) (of_decide_eq_true (by kernel_rfl)) k0 bel lt0) trodAll_mk0), hv', bel.frame _, fun h => by cases h⟩
theorem laid_met (os : Os) : laidMet Tryz.prog Rows.fnProcsRow.laid ((Crd.laidOver (World.holding Tryz.prog os ⟨#[], #[], []⟩)).forCall (fun _ _ => 0) ⟨#[], #[.slice Option.none 0 0], []⟩).memory :=
  laidMet_of_run' 8 (by kernel_rfl) (by kernel_rfl)
theorem reads (os : Os) {H : Type} (enc : TypeId × Value → H) : ∃ places, DataW.whole enc Tryz.prog ((Crd.laidOver (World.holding Tryz.prog os ⟨#[], #[], []⟩)).forCall (fun _ _ => 0) ⟨#[], #[.slice Option.none 0 0], []⟩).memory Tryz.f3.params.toList Rows.fnProcsSpec.vars false #[Value.slice Option.none 0 0].toList 8 = some ([.nil], [Rows.laid_loop_example_g00343_impl_stepRules], places) :=
  ⟨MemPlace.row ⟨0, 0, Option.none⟩ 56, by kernel_rfl⟩
set_option maxRecDepth 100000 in
theorem lifted (os : Os) (started : os.Started) (H : Type) (enc : TypeId × Value → H) (F : Stop.Interp) :
    ReturnsInHanded {} Tryz.checked os 3 .any ((OpenSpec.ofChange Rows.fnProcsSpec).preRow enc Tryz.prog Tryz.f3 Rows.fnProcsRow.domain false Rows.fnProcsRow.laid) (((OpenSpec.ofChange Rows.fnProcsSpec).at F).post enc Tryz.prog Tryz.f3 false true false false) := by
  obtain ⟨places, hx⟩ := reads os enc
  refine returnsInHanded_of_row (C := Tryz.checked) (s := OpenSpec.ofChange Rows.fnProcsSpec) Crd.own started (by kernel_rfl) Tryz.func3
    (witness_row_at (enc := enc) (C := Tryz.checked) false (Crd.laidOver (World.holding Tryz.prog os ⟨#[], #[], []⟩)) #[.slice Option.none 0 0] rfl (by kernel_rfl) (by kernel_rfl) (by kernel_rfl)
      (OpenSpec.preRow_of_cond 8 hx (by kernel_rfl) (fun k hk => by cases hk) (by kernel_rfl) (laid_met os))) ?_
  intro W base args ds gs before hval hW _ _ _ hL _ _
  exact contract H enc W base args ds gs before hval hW hL
theorem said : Rows.FnProcsSaid :=
  OpenClaim.holds_of_cond 3 Tryz.f3 rfl rfl rfl rfl rfl rfl rfl ⟨rfl, rfl, rfl, rfl, rfl⟩ rfl rfl rfl rfl rfl (by kernel_rfl) Tryz.func3 (by kernel_rfl)
    (of_decide_eq_true (by kernel_rfl)) (by unfold Func.isWrapper; first | (rw [if_pos (by decide +kernel)]; kernel_rfl) | (rw [if_neg (by decide +kernel)]; exact ⟨rfl, rfl⟩))
    (fun os started H enc _ F => by rw [OpenClaim.pre_eq_preRow]; exact lifted os started H enc F)
set_option maxRecDepth 100000 in
theorem plain (f : FuncId) (fn : Func) (hf : Tryz.pinned.checked.prog.funcNamed "loop.example/g00343/laws.FnProcs" = some f) (hfn : Tryz.pinned.checked.prog.funcs[f]? = some fn) :
    true = Tryz.pinned.checked.prog.looks [] ∧ ∀ (j : Nat) t, fn.params[j]? = some t → Tryz.pinned.checked.prog.wantsStandIn t = false := by
  obtain rfl : f = 3 := Option.some.inj ((show Tryz.prog.funcNamed "loop.example/g00343/laws.FnProcs" = some 3 by kernel_rfl).symm.trans hf) |>.symm
  obtain rfl : fn = Tryz.f3 := (Option.some.inj (Tryz.func3.symm.trans hfn)).symm
  refine ⟨by kernel_rfl, fun j t ht => ?_⟩
  rw [Tryz.params3] at ht
  obtain rfl : t = 22 := by simpa using Array.mem_of_getElem? ht
  exact (show Tryz.prog.wantsStandIn 22 = false by kernel_rfl)
end FpL
theorem fnProcs_card : Rows.FnProcsCardSaid :=
  Claim7.holds_tied_plain_at .later [] _ _ _ _ FpL.said (fun _ h => by cases h) (by kernel_rfl) (fun _ h => by cases h) fnProcs_row_tie rfl ⟨rfl, rfl⟩ (by kernel_rfl) rfl FpL.plain (by kernel_rfl)
#print axioms fnProcs_card
end Go.Proofs.YtnbmpofmieagfaaGreatDoor
