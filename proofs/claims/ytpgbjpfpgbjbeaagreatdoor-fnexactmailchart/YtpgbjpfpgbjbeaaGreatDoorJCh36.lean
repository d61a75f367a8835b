/- Laid together: KuD, KuE. -/
import Derived.Test.YtpgbjpfpgbjbeaaGreatDoorJCh32
import Derived.Test.YtpgbjpfpgbjbeaaGreatDoorJCh35
import Derived.Deep.Cut
import Derived.Defers
/- What the program does where a step sets a variable. -/
namespace Go.Proofs.YtpgbjpfpgbjbeaaGreatDoor
open Go.RowKit Go.Deep
set_option linter.unusedVariables false
set_option linter.unusedSimpArgs false
namespace Ku
open Ex (inR evalCode evalVal vFault hid)
open St (StepD)
open Pf
open Kc (CS upd zer endOf stopped idle pick aft allOver kid go mE mO Ok kid_mem kid_lt kid_in KAt Rides kval PBlk cntK beginG behindG)
def OverU (wg : World) (R : Nat) (u : Value) (ss : List StepD) (f : Nat) : Prop :=
  ∀ k s w, k < ss.length → mO ss k ≤ f → Ok s → KAt wg w R u ss s → Calls Tryz.prog 54 #[.pointer (some ⟨R, 0, none⟩), .int .i64 (k : Int)] w (UPost wg R u ss (go ss f true k s) w)
def EnterU (wg : World) (R : Nat) (u : Value) (ss : List StepD) (f : Nat) : Prop :=
  ∀ k s w b1 b2 b3, k < ss.length → mE ss k ≤ f → Ok s → KAt wg w R u ss s → Clo wg w R b1 b2 b3 ss k → Calls Tryz.prog 73 #[.pointer (some ⟨b1, 0, none⟩), .pointer (some ⟨b2, 0, none⟩), .pointer (some ⟨b3, 0, none⟩)] w (UPost wg R u ss (go ss f false k s) w)
def EnterD (wg : World) (R : Nat) (u : Value) (ss : List StepD) (f : Nat) : Prop :=
  ∀ k s w b1 b2 b3 (um : FrameMode), k < ss.length → mE ss k ≤ f → Ok s → KAt wg w R u ss s → Clo wg w R b1 b2 b3 ss k → CallsD Tryz.prog 73 #[.pointer (some ⟨b1, 0, none⟩), .pointer (some ⟨b2, 0, none⟩), .pointer (some ⟨b3, 0, none⟩)] um w fun e u' w' => u' = um ∧ UPost wg R u ss (go ss f false k s) w e w'
theorem UPost.of {wg : World} {R : Nat} {u : Value} {ss : List StepD} {s s' : CS} {w w1 w2 : World} {e : Ending} (h : UPost wg R u ss s' w1 e w2) (hr : Rides R w w1) (hs : s = s') : UPost wg R u ss s w e w2 := by
  subst hs
  exact ⟨h.1, h.2.1, hr.trans h.2.2⟩
theorem KAt.vars {wg w : World} {R : Nat} {u : Value} {ss : List StepD} {s : CS} (h : KAt wg w R u ss s) : Nu.At w 0 (.slice (some ⟨R, 3, none⟩) 4 4) s.vars := by
  have e : (4 : Nat) = s.vars.length := h.len.symm
  refine ⟨some ⟨R, 3, none⟩, 4, by rw [h.len], by rw [h.len]; exact Nat.le_refl _, by unfold maxLen; omega, .inr ⟨R, 3, rfl, Nat.zero_le _, h.lt, fun i hi => ?_⟩⟩
  rw [h.cV (by rw [h.len] at hi; exact hi), List.getD_eq_getElem?_getD, List.getElem?_eq_getElem hi]
  rfl
theorem kval_setV {u : Value} {s : CS} {k : Nat} (hk : k < 4) (hl : s.vars.length = 4) (v : Int) {j : Nat} (hj : j < 55) : kval u (Kc.setV s k v) j = if 3 + k = j then .int .i64 v else kval u s j := by
  unfold kval Kc.setV
  by_cases h3 : 3 ≤ j ∧ j < 7
  · rw [if_neg (by omega), if_neg (by omega), if_neg (by omega), if_pos (by omega)]
    show Value.int .i64 ((s.vars.set k v).getD (j - 3) 0) = _
    rw [List.getD_eq_getElem?_getD, List.getElem?_set]
    by_cases e : 3 + k = j
    · rw [if_pos (by omega), if_pos (by omega), if_pos e]; rfl
    · rw [if_neg (by omega), if_neg e, if_neg (by omega), if_neg (by omega), if_neg (by omega), if_pos (by omega), List.getD_eq_getElem?_getD]
  · rw [if_neg (show ¬ 3 + k = j by omega)]
    by_cases h7 : j < 7
    · by_cases e0 : j = 0
      · simp [e0]
      · by_cases e1 : j = 1
        · simp [e1]
        · have e2 : j = 2 := by omega
          simp [e2]
    · have : ¬ j = 0 := by omega
      have : ¬ j = 1 := by omega
      have : ¬ j = 2 := by omega
      simp [h7, *]
theorem KAt.setV {wg w : World} {R : Nat} {u : Value} {ss : List StepD} {s : CS} (h : KAt wg w R u ss s) {k : Nat} (hk : k < 4) (v : Int) : KAt wg (w.setCell ⟨R, 3 + k, none⟩ (.int .i64 v)) R u ss (Kc.setV s k v) :=
  h.put (by omega) (fun j hj => kval_setV hk h.len v hj) (by show (s.vars.set k v).length = 4; rw [List.length_set]; exact h.len) h.pad
set_option maxRecDepth 100000 in
set_option maxHeartbeats 16000000 in
theorem setU (wg w : World) (R : Nat) (u : Value) (ss : List StepD) (s : CS) (k f : Nat) (kv vc ve : Value) (hp : pFault ss = 0) (hk : k < ss.length) (h7 : (PJ ss k).kind = 7) (hm : mO ss k ≤ f) (hok : Ok s) (hO : OverU wg R u ss f) (hpc : PCells wg ss k hk kv vc ve) (h : KAt wg w R u ss s) :
    Calls Tryz.prog 106 #[.pointer (some ⟨R, 0, none⟩), .agg #[.int .i64 (k : Int), .int .i64 ((path ss (k + 1)).length : Int), kv, .int .i64 ss[k].kind, .int .i64 ss[k].parent, .string ss[k].name, .int .i64 ss[k].arg, vc, ve]] w (UPost wg R u ss (if evalCode (PJ ss k).expr s.vars = 0 then go ss f true k (Kc.setV s (PJ ss k).arg.toNat (evalVal (PJ ss k).expr s.vars)) else stopped s 3) w) := by
  have hl : ss.length ≤ 24 := by have := (of_p hp).1; omega
  have harg := Kt.arg_set hp hk h7
  have hex := Kt.expr_ok hp hk h7
  rw [PJ_eq hk] at harg hex ⊢
  obtain ⟨ak, ck, rfl⟩ := hpc.kids.slice
  obtain ⟨ac, cc, rfl⟩ := hpc.cond.slice
  obtain ⟨ae, ce, rfl⟩ := hpc.expr.slice
  have hRl := h.lt
  obtain ⟨w0, e0⟩ : ∃ w0, w0 = w.alloc (.cells #[.int .i64 (k : Int), .int .i64 ((path ss (k + 1)).length : Int), .slice ak (kidsL ss k).length ck, .int .i64 ss[k].kind, .int .i64 ss[k].parent, .string ss[k].name, .int .i64 ss[k].arg, .slice ac ss[k].cond.length cc, .slice ae ss[k].expr.length ce] 86) := ⟨_, rfl⟩
  have hb0 : Below w.heap.size w w0 := by rw [e0]; exact (Below.refl _ w).alloc (Nat.le_refl _) _
  have hx0 : PBlk w0 w.heap.size #[.int .i64 (k : Int), .int .i64 ((path ss (k + 1)).length : Int), .slice ak (kidsL ss k).length ck, .int .i64 ss[k].kind, .int .i64 ss[k].parent, .string ss[k].name, .int .i64 ss[k].arg, .slice ac ss[k].cond.length cc, .slice ae ss[k].expr.length ce] := by rw [e0]; exact Ch.new_blk _ _
  have HXB : Hid (∀ wx, Below w0.heap.size w0 wx → PBlk wx w.heap.size #[.int .i64 (k : Int), .int .i64 ((path ss (k + 1)).length : Int), .slice ak (kidsL ss k).length ck, .int .i64 ss[k].kind, .int .i64 ss[k].parent, .string ss[k].name, .int .i64 ss[k].arg, .slice ac ss[k].cond.length cc, .slice ae ss[k].expr.length ce]) := hid (fun wx hb => hx0.below hb)
  have HXd := hid (HXB.out w0.drew (Below.refl _ w0).drew)
  have HBd : Hid (Below w0.heap.size w0 w0.drew) := hid (Below.refl _ w0).drew
  have hK0 := h.below hb0
  have HK0 := hid hK0
  have HR0 : Hid (Rides R w w0) := hid (Rides.of_below hb0)
  have h16 : ss[k].expr.length ≤ 1048576 := by have := (Ex.of_e (Ex.of_type hex.1)).2.1; omega
  have HEV : Hid (∀ wx, Below w0.heap.size w0 wx → Calls Tryz.prog 131 #[.slice ae ss[k].expr.length ce, .slice (some ⟨R, 3, none⟩) 4 4] wx fun e w' => e = .returned (.agg #[.int .i64 (evalCode ss[k].expr s.vars), .int .i64 (evalVal ss[k].expr s.vars)]) ∧ Below wx.heap.size wx w') := hid (fun wx hb => Ex.implEvalExpr 0 0 ss[k].expr s.vars _ _ wx h16 (by rw [h.len]; omega) (hpc.expr.below ((h.bel.trans (hb0.mono h.bel.size)).trans (hb.mono (Nat.le_trans h.bel.size hb0.size)))) (KAt.vars (hK0.below hb)))
  have HO := hid hO
  have HOK := hid hok
  have hlR : R < w0.heap.size := Nat.lt_of_lt_of_le hRl hb0.size
  have HIN := hid (fun (hc : evalCode ss[k].expr s.vars = 0) => Kc.eval_in (e := ss[k].expr) (vars := s.vars) hc)
  clear h hok hO hpc hb0 hx0 hK0 hex h16
  generalize evalCode ss[k].expr s.vars = ec at *
  generalize evalVal ss[k].expr s.vars = ev at *
  obtain ⟨tgt, et⟩ : ∃ tgt, tgt = (if ec = 0 then go ss f true k (Kc.setV s ss[k].arg.toNat ev) else stopped s 3) := ⟨_, rfl⟩
  rw [← et]
  have ET := hid et
  clear et
  go_enter Tryz.func106, Tryz.ntmps106
  go_wp2
  rw [← e0]
  clear e0
  go_cut [4] from 5 (fun s4 wx => ∃ p, s4 = .pointer (some ⟨p, 0, none⟩) ∧ Hid (w0.heap.size ≤ p) ∧ Hid (wx.heap[p]? = some (.cells #[.int .i64 ec, .int .i64 ev] 159)) ∧ Hid (Below w0.heap.size w0 wx))
  case first =>
    refine wp_region_held_drew (S := fun wx => PBlk wx w.heap.size #[.int .i64 (k : Int), .int .i64 ((path ss (k + 1)).length : Int), .slice ak (kidsL ss k).length ck, .int .i64 ss[k].kind, .int .i64 ss[k].parent, .string ss[k].name, .int .i64 ss[k].arg, .slice ac ss[k].cond.length cc, .slice ae ss[k].expr.length ce]) (by kernel_rfl) HXd.out (fun hHeld => ?_)
    refine wpAnyH_take (i := 0) (v := .pointer (some ⟨w.heap.size, 3, none⟩)) rfl (by kernel_rfl) (by kernel_rfl) (by kernel_rfl) (fun _ _ _ h => h) (Or.inl ⟨by kernel_rfl, by intro w hSw; (try dsimp only at hSw); go_simp⟩) (by assumption) ?_
    simp only [Act.put, List.setIfInBounds_toArray, List.set_cons_zero, List.set_cons_succ]
    refine wpAnyH_take (i := 1) (v := .pointer (some ⟨w.heap.size, 8, none⟩)) rfl (by kernel_rfl) (by kernel_rfl) (by kernel_rfl) (fun _ _ _ h => h) (Or.inl ⟨by kernel_rfl, by intro w hSw; (try dsimp only at hSw); go_simp⟩) (by assumption) ?_
    simp only [Act.put, List.setIfInBounds_toArray, List.set_cons_zero, List.set_cons_succ]
    refine wpAnyH_take (i := 2) (v := .slice ae ss[k].expr.length ce) rfl (by kernel_rfl) (by kernel_rfl) (by kernel_rfl) (fun _ _ _ h => h) (Or.inl ⟨by kernel_rfl, by intro w hSw; (try dsimp only at hSw); have m8 := PBlk.cell hSw 8; clear hSw; go_simp⟩) (by assumption) ?_
    simp only [Act.put, List.setIfInBounds_toArray, List.set_cons_zero, List.set_cons_succ]
    refine wpAnyH_take (i := 3) (v := .pointer (some ⟨R, 0, none⟩)) rfl (by kernel_rfl) (by kernel_rfl) (by kernel_rfl) (fun _ _ _ h => h) (Or.inl ⟨by kernel_rfl, by intro w hSw; (try dsimp only at hSw); go_simp⟩) (by assumption) ?_
    simp only [Act.put, List.setIfInBounds_toArray, List.set_cons_zero, List.set_cons_succ]
    refine wpAnyH_take (i := 4) (v := .pointer (some ⟨R, 0, none⟩)) rfl (by kernel_rfl) (by kernel_rfl) (by kernel_rfl) (fun _ _ _ h => h) (Or.inl ⟨by kernel_rfl, by intro w hSw; (try dsimp only at hSw); go_simp⟩) (by assumption) ?_
    simp only [Act.put, List.setIfInBounds_toArray, List.set_cons_zero, List.set_cons_succ]
    refine wpAnyH_take (i := 5) (v := .pointer (some ⟨R, 3, none⟩)) rfl (by kernel_rfl) (by kernel_rfl) (by kernel_rfl) (fun _ _ _ h => h) (Or.inl ⟨by kernel_rfl, by intro w hSw; (try dsimp only at hSw); go_simp⟩) (by assumption) ?_
    simp only [Act.put, List.setIfInBounds_toArray, List.set_cons_zero, List.set_cons_succ]
    refine wpAnyH_take (i := 6) (v := .slice (some ⟨R, 3, none⟩) 4 4) rfl (by kernel_rfl) (by kernel_rfl) (by kernel_rfl) (fun _ _ _ h => h) (Or.inl ⟨by kernel_rfl, by intro w hSw; (try dsimp only at hSw); go_simp⟩) (by assumption) ?_
    simp only [Act.put, List.setIfInBounds_toArray, List.set_cons_zero, List.set_cons_succ]
    refine wpAnyH_ready (rs := [7, 8]) (by kernel_rfl) (by simp) ?_
    refine AllReadyH.cons rfl (fun K hK => ?_) (AllReadyH.cons rfl (fun K hK => ?_) AllReadyH.nil)
    · go_simp
      go_at_call 131
      refine (HEV.out _ HBd.out).mono ?_
      rintro e q1 ⟨rfl, hq1⟩
      have BQ : Below w0.heap.size w0 q1 := HBd.out.trans (hq1.mono HBd.out.size)
      have hXq := HXB.out _ BQ
      clear hq1
      go_wp2_with fail
      refine hK.out _ _ hXq (fun hHeld => ?_)
      clear hK K
      try simp only [Act.put, List.setIfInBounds_toArray, List.set_cons_zero, List.set_cons_succ]
      refine wpAnyH_ready (rs := [8]) (by kernel_rfl) (by simp) ?_
      refine AllReadyH.cons rfl (fun K hK => ?_) AllReadyH.nil
      go_simp
      obtain ⟨qA, eA⟩ : ∃ qA, qA = q1.alloc (.cells #[.int .i64 0, .int .i64 0] 159) := ⟨_, rfl⟩
      have hA : Below q1.heap.size q1 qA := by rw [eA]; exact (Below.refl _ q1).alloc (Nat.le_refl _) _
      have hPA : qA.heap[q1.heap.size]? = some (.cells #[.int .i64 0, .int .i64 0] 159) := by rw [eA]; exact Ch.new_blk _ _
      have BA : Below w0.heap.size w0 qA := BQ.trans (hA.mono BQ.size)
      have hlp : w0.heap.size ≤ q1.heap.size := BQ.size
      rw [← eA]
      clear eA
      refine hK.out _ _ (HXB.out _ BA) (fun hHeld => ?_)
      clear hK K
      try simp only [Act.put, List.setIfInBounds_toArray, List.set_cons_zero, List.set_cons_succ]
      have t0 := Ch.blk_free hPA 0
      have t1 := Ch.blk_free hPA 1
      have z0 := Ch.blk_cell hPA 0
      have z1 := Ch.blk_cell hPA 1
      have hbS : Below w0.heap.size w0 ((qA.setCell ⟨q1.heap.size, 0, none⟩ (.int .i64 ec)).setCell ⟨q1.heap.size, 1, none⟩ (.int .i64 ev)) := (BA.setCell (p := ⟨q1.heap.size, 0, none⟩) hlp _).setCell (p := ⟨q1.heap.size, 1, none⟩) hlp _
      have hPS : ((qA.setCell ⟨q1.heap.size, 0, none⟩ (.int .i64 ec)).setCell ⟨q1.heap.size, 1, none⟩ (.int .i64 ev)).heap[q1.heap.size]? = some (.cells #[.int .i64 ec, .int .i64 ev] 159) := by have h9 := Ch.blk_set (i := 1) (Ch.blk_set (i := 0) hPA (.int .i64 ec)) (.int .i64 ev); simpa using h9
      refine wpAnyH_ready (rs := [9]) (by kernel_rfl) (by simp) ?_
      refine AllReadyH.cons rfl (fun K hK => ?_) AllReadyH.nil
      go_simp
      refine hK.out _ _ (HXB.out _ hbS) (fun hHeld => ?_)
      clear hK K
      try simp only [Act.put, List.setIfInBounds_toArray, List.set_cons_zero, List.set_cons_succ]
      refine wpAnyH_done (by kernel_rfl) ?_ _
      go_wp2_with fail
      go_meet
      exact ⟨q1.heap.size, rfl, hid hlp, hid hPS, hid hbS⟩
    · go_simp
      obtain ⟨qA, eA⟩ : ∃ qA, qA = (w0.alloc (.cells #[.int .i64 0, .int .i64 0] 159)).drew := ⟨_, rfl⟩
      have hA : Below w0.heap.size w0 qA := by rw [eA]; exact ((Below.refl _ w0).alloc (Nat.le_refl _) _).drew
      have hP0 : qA.heap[w0.heap.size]? = some (.cells #[.int .i64 0, .int .i64 0] 159) := by rw [eA]; exact Ch.new_blk _ _
      rw [← eA]
      clear eA
      refine hK.out _ _ (HXB.out _ hA) (fun hHeld => ?_)
      clear hK K
      try simp only [Act.put, List.setIfInBounds_toArray, List.set_cons_zero, List.set_cons_succ]
      refine wpAnyH_ready (rs := [7]) (by kernel_rfl) (by simp) ?_
      refine AllReadyH.cons rfl (fun K hK => ?_) AllReadyH.nil
      go_simp
      go_at_call 131
      refine (HEV.out _ hA).mono ?_
      rintro e q1 ⟨rfl, hq1⟩
      have BQ : Below w0.heap.size w0 q1 := hA.trans (hq1.mono hA.size)
      have BA := BQ
      have hPA := (hq1.block _ (Ch.blk_lt hP0)).trans hP0
      have hlp : w0.heap.size ≤ w0.heap.size := Nat.le_refl _
      have hXq := HXB.out _ BQ
      clear hq1
      go_wp2_with fail
      refine hK.out _ _ hXq (fun hHeld => ?_)
      clear hK K
      try simp only [Act.put, List.setIfInBounds_toArray, List.set_cons_zero, List.set_cons_succ]
      have t0 := Ch.blk_free hPA 0
      have t1 := Ch.blk_free hPA 1
      have z0 := Ch.blk_cell hPA 0
      have z1 := Ch.blk_cell hPA 1
      have hbS : Below w0.heap.size w0 ((q1.setCell ⟨w0.heap.size, 0, none⟩ (.int .i64 ec)).setCell ⟨w0.heap.size, 1, none⟩ (.int .i64 ev)) := (BA.setCell (p := ⟨w0.heap.size, 0, none⟩) hlp _).setCell (p := ⟨w0.heap.size, 1, none⟩) hlp _
      have hPS : ((q1.setCell ⟨w0.heap.size, 0, none⟩ (.int .i64 ec)).setCell ⟨w0.heap.size, 1, none⟩ (.int .i64 ev)).heap[w0.heap.size]? = some (.cells #[.int .i64 ec, .int .i64 ev] 159) := by have h9 := Ch.blk_set (i := 1) (Ch.blk_set (i := 0) hPA (.int .i64 ec)) (.int .i64 ev); simpa using h9
      refine wpAnyH_ready (rs := [9]) (by kernel_rfl) (by simp) ?_
      refine AllReadyH.cons rfl (fun K hK => ?_) AllReadyH.nil
      go_simp
      refine hK.out _ _ (HXB.out _ hbS) (fun hHeld => ?_)
      clear hK K
      try simp only [Act.put, List.setIfInBounds_toArray, List.set_cons_zero, List.set_cons_succ]
      refine wpAnyH_done (by kernel_rfl) ?_ _
      go_wp2_with fail
      go_meet
      exact ⟨w0.heap.size, rfl, hid hlp, hid hPS, hid hbS⟩
  case rest =>
    obtain ⟨p, rfl, HLP, HPB, HBC⟩ := hcut
    have HKc := hid (HK0.out.below HBC.out)
    have HRc := hid (HR0.out.trans (Rides.of_below HBC.out))
    have t0 := Ch.blk_cell HPB.out 0
    have t1 := Ch.blk_cell HPB.out 1
    have tl := Ch.blk_lt HPB.out
    have hX := HXB.out _ HBC.out
    by_cases hc : ec = 0
    · have b0 : (ec != 0) = false := by simp [hc]
      have hin := HIN.out hc
      obtain ⟨na, hna⟩ : ∃ na : Nat, ss[k].arg = (na : Int) := ⟨ss[k].arg.toNat, by omega⟩
      have hna4 : na < 4 := by omega
      have HX : Hid (tgt = go ss f true k (Kc.setV s na ev)) := hid (by rw [ET.out, if_pos hc, hna, Int.toNat_natCast])
      have m6 := hX.cell 6
      have m0 := hX.cell 0
      simp only [List.getElem?_toArray, List.getElem?_cons_succ, List.getElem?_cons_zero] at m6 m0
      rw [hna] at m6
      have mV := HKc.out.cV hna4
      have fV := HKc.out.free (3 + na)
      obtain ⟨w5, e5⟩ : ∃ w5, w5 = (wc.setCell ⟨R, 3 + na, none⟩ (.int .i64 ev)).drew := ⟨_, rfl⟩
      have hK5 := (KAt.setV HKc.out hna4 ev).below (Below.refl _ _).drew
      rw [← e5] at hK5
      have hR5 : Rides R wc w5 := by rw [e5]; exact (Rides.set R _ _ _).trans (Rides.of_below (Below.refl _ _).drew)
      have HOV := hid (HO.out k _ w5 hk hm (HOK.out.setV na hin) hK5)
      have hX5 : PBlk w5 w.heap.size _ := (hR5.block _ (Ch.blk_lt hX) (by omega)).trans hX
      have m05 := hX5.cell 0
      simp only [List.getElem?_toArray, List.getElem?_cons_succ, List.getElem?_cons_zero] at m05
      have HR5 := hid hR5
      have E5 := hid e5
      have q1 : (na : Int) < 4 := by omega
      have q2 : (0 : Int) ≤ (na : Int) := by omega
      clear hc hna hX hX5 hR5 hK5 e5 hin m0
      go_wp2
      go_region
      rw [← E5.out]
      go_wp2_with (go_at_call 54; refine HOV.out.mono ?_; rintro e w6 hT; obtain rfl := hT.1; have HT := hid hT; clear hT)
      go_end0
      exact HT.out.of (HRc.out.trans HR5.out) HX.out
    · have b0 : (ec != 0) = true := bne_iff_ne.2 hc
      have HX : Hid (tgt = stopped s 3) := hid (by rw [ET.out, if_neg hc])
      have HSP := hid (stop wg wc R u ss s 3 hl HKc.out)
      clear hc hX
      go_wp2_with (go_at_call 114; refine HSP.out.mono ?_; rintro e w6 hT; obtain rfl := hT.1; have HT := hid hT; clear hT)
      first
        | go_end0
        | refine bodyPost_ret (results_none Tryz.results106 _ _ _) rfl ?_
      exact HT.out.of HRc.out HX.out
end Ku
end Go.Proofs.YtpgbjpfpgbjbeaaGreatDoor
/- A step entered: what the closure does. -/
namespace Go.Proofs.YtpgbjpfpgbjbeaaGreatDoor
open Go.RowKit Go.Deep
set_option linter.unusedVariables false
set_option linter.unusedSimpArgs false
namespace Ku
open Ex (inR evalCode evalVal vFault hid)
open St (StepD)
open Pf
open Kc (CS upd zer endOf stopped idle pick aft allOver kid go mE mO Ok kid_mem kid_lt kid_in KAt Rides kval PBlk cntK beginG behindG)
def BeginU (wg : World) (R : Nat) (u : Value) (ss : List StepD) (f : Nat) : Prop :=
  ∀ k s w kv vc ve (hk : k < ss.length), mE ss k ≤ f + 1 → Ok s → PCells wg ss k hk kv vc ve → KAt wg w R u ss s → Calls Tryz.prog 74 #[.pointer (some ⟨R, 0, none⟩), .agg #[.int .i64 (k : Int), .int .i64 ((path ss (k + 1)).length : Int), kv, .int .i64 ss[k].kind, .int .i64 ss[k].parent, .string ss[k].name, .int .i64 ss[k].arg, vc, ve]] w (UPost wg R u ss (beginG (go ss f false) (go ss f true) ss k s) w)
theorem UPost.of' {wg : World} {R : Nat} {u : Value} {ss : List StepD} {s s' : CS} {w w1 w2 : World} {e : Ending} (h : UPost wg R u ss s' w1 e w2) (hr : Rides R w w1) (hs : s = s') : UPost wg R u ss s w (.returned (.tuple #[])) w2 := by
  subst hs
  exact ⟨rfl, h.2.1, hr.trans h.2.2⟩
set_option maxRecDepth 100000 in
set_option maxHeartbeats 16000000 in
theorem enterU {wg : World} {R : Nat} {u : Value} {ss : List StepD} {f : Nat} (hp : pFault ss = 0) (hB : BeginU wg R u ss f) : EnterU wg R u ss (f + 1) := by
  intro k s w b1 b2 b3 hk hm hok h hcl
  have hl : ss.length ≤ 24 := by have := (of_p hp).1; omega
  have hRl := h.lt
  have n1 := hcl.n1
  have n2 := hcl.n2
  have n3 := hcl.n3
  have d1 := Ch.blk_cell hcl.c1 0
  have d2 := Ch.blk_cell hcl.c2 0
  simp only [List.getElem?_toArray, List.getElem?_cons_succ, List.getElem?_cons_zero] at d1 d2
  obtain ⟨kv, vc, ve, hx, hpc⟩ : ∃ kv vc ve, PBlk w b3 #[.int .i64 (k : Int), .int .i64 ((path ss (k + 1)).length : Int), kv, .int .i64 ss[k].kind, .int .i64 ss[k].parent, .string ss[k].name, .int .i64 ss[k].arg, vc, ve] ∧ PCells wg ss k hk kv vc ve := hcl.c3
  obtain ⟨ak, ck, rfl⟩ := hpc.kids.slice
  obtain ⟨ac, cc, rfl⟩ := hpc.cond.slice
  obtain ⟨ae, ce, rfl⟩ := hpc.expr.slice
  have hst := h.c1
  have HGO := hid (Kc.go_enter ss f k s)
  obtain ⟨tgt, et⟩ : ∃ tgt, tgt = go ss (f + 1) false k s := ⟨_, rfl⟩
  rw [← et] at HGO ⊢
  clear et
  have HK := hid h
  by_cases hs : s.status = 1
  · rw [hs] at hst
    have mA := h.cA (i := k) (by omega)
    have fA := h.free (7 + k)
    obtain ⟨w5, e5⟩ : ∃ w5, w5 = (w.setCell ⟨R, 7 + k, none⟩ (.int .i64 1)).drew := ⟨_, rfl⟩
    have hK5 := (KAt.act h hk hl 1).below (Below.refl _ _).drew
    rw [← e5] at hK5
    have hR5 : Rides R w w5 := by rw [e5]; exact (Rides.set R _ _ _).trans (Rides.of_below (Below.refl _ _).drew)
    have hcl5 := hcl.rides hR5
    have d15 := Ch.blk_cell hcl5.c1 0
    simp only [List.getElem?_toArray, List.getElem?_cons_succ, List.getElem?_cons_zero] at d15
    have hx5 : PBlk w5 b3 _ := (hR5.block _ (Ch.blk_lt hx) (by omega)).trans hx
    have s0 := hx5.cell 0
    have s1 := hx5.cell 1
    have s2 := hx5.cell 2
    have s3 := hx5.cell 3
    have s4 := hx5.cell 4
    have s5 := hx5.cell 5
    have s6 := hx5.cell 6
    have s7 := hx5.cell 7
    have s8 := hx5.cell 8
    simp only [List.getElem?_toArray, List.getElem?_cons_succ, List.getElem?_cons_zero] at s0 s1 s2 s3 s4 s5 s6 s7 s8
    have HB := hid (hB k _ w5 _ _ _ hk hm (hok.act k 1) hpc hK5)
    have HT : Hid (tgt = beginG (go ss f false) (go ss f true) ss k (Kc.act s k 1)) := hid (by rw [HGO.out, if_pos hs])
    have HR5 := hid hR5
    have E5 := hid e5
    have q1 : (k : Int) < 24 := by omega
    have q2 : (0 : Int) ≤ (k : Int) := by omega
    clear hK5 e5 hR5 hcl5 hx5 hs hpc hx hcl h hm hok HGO
    go_enter Tryz.func73, Tryz.ntmps73
    go_wp2
    go_region
    rw [← E5.out]
    go_wp2_with (go_at_call 74; refine HB.out.mono ?_; rintro e w6 hT; obtain rfl := hT.1; have HU := hid hT; clear hT)
    go_end0
    exact UPost.of' HU.out HR5.out HT.out
  · have bb1 : (s.status == 1) = false := beq_eq_false_iff_ne.2 hs
    have HT : Hid (tgt = s) := hid (by rw [HGO.out, if_neg hs])
    clear hs hpc hx hcl h hm hok HGO
    go_enter Tryz.func73, Tryz.ntmps73
    go_wp2
    go_end0
    exact ⟨rfl, by rw [HT.out]; exact HK.out, Rides.refl _ _⟩
set_option maxRecDepth 100000 in
set_option maxHeartbeats 16000000 in
theorem enterD {wg : World} {R : Nat} {u : Value} {ss : List StepD} {f : Nat} (hp : pFault ss = 0) (hB : BeginU wg R u ss f) : EnterD wg R u ss (f + 1) := by
  intro k s w b1 b2 b3 um hk hm hok h hcl
  have hl : ss.length ≤ 24 := by have := (of_p hp).1; omega
  have hRl := h.lt
  have n1 := hcl.n1
  have n2 := hcl.n2
  have n3 := hcl.n3
  have d1 := Ch.blk_cell hcl.c1 0
  have d2 := Ch.blk_cell hcl.c2 0
  simp only [List.getElem?_toArray, List.getElem?_cons_succ, List.getElem?_cons_zero] at d1 d2
  obtain ⟨kv, vc, ve, hx, hpc⟩ : ∃ kv vc ve, PBlk w b3 #[.int .i64 (k : Int), .int .i64 ((path ss (k + 1)).length : Int), kv, .int .i64 ss[k].kind, .int .i64 ss[k].parent, .string ss[k].name, .int .i64 ss[k].arg, vc, ve] ∧ PCells wg ss k hk kv vc ve := hcl.c3
  obtain ⟨ak, ck, rfl⟩ := hpc.kids.slice
  obtain ⟨ac, cc, rfl⟩ := hpc.cond.slice
  obtain ⟨ae, ce, rfl⟩ := hpc.expr.slice
  have hst := h.c1
  have HGO := hid (Kc.go_enter ss f k s)
  obtain ⟨tgt, et⟩ : ∃ tgt, tgt = go ss (f + 1) false k s := ⟨_, rfl⟩
  rw [← et] at HGO ⊢
  clear et
  have HK := hid h
  by_cases hs : s.status = 1
  · rw [hs] at hst
    have mA := h.cA (i := k) (by omega)
    have fA := h.free (7 + k)
    obtain ⟨w5, e5⟩ : ∃ w5, w5 = (w.setCell ⟨R, 7 + k, none⟩ (.int .i64 1)).drew := ⟨_, rfl⟩
    have hK5 := (KAt.act h hk hl 1).below (Below.refl _ _).drew
    rw [← e5] at hK5
    have hR5 : Rides R w w5 := by rw [e5]; exact (Rides.set R _ _ _).trans (Rides.of_below (Below.refl _ _).drew)
    have hcl5 := hcl.rides hR5
    have d15 := Ch.blk_cell hcl5.c1 0
    simp only [List.getElem?_toArray, List.getElem?_cons_succ, List.getElem?_cons_zero] at d15
    have hx5 : PBlk w5 b3 _ := (hR5.block _ (Ch.blk_lt hx) (by omega)).trans hx
    have s0 := hx5.cell 0
    have s1 := hx5.cell 1
    have s2 := hx5.cell 2
    have s3 := hx5.cell 3
    have s4 := hx5.cell 4
    have s5 := hx5.cell 5
    have s6 := hx5.cell 6
    have s7 := hx5.cell 7
    have s8 := hx5.cell 8
    simp only [List.getElem?_toArray, List.getElem?_cons_succ, List.getElem?_cons_zero] at s0 s1 s2 s3 s4 s5 s6 s7 s8
    have HB := hid (hB k _ w5 _ _ _ hk hm (hok.act k 1) hpc hK5)
    have HT : Hid (tgt = beginG (go ss f false) (go ss f true) ss k (Kc.act s k 1)) := hid (by rw [HGO.out, if_pos hs])
    have HR5 := hid hR5
    have E5 := hid e5
    have q1 : (k : Int) < 24 := by omega
    have q2 : (0 : Int) ≤ (k : Int) := by omega
    clear hK5 e5 hR5 hcl5 hx5 hs hpc hx hcl h hm hok HGO
    go_enter_d Tryz.func73, Tryz.ntmps73
    go_wp2
    go_region
    rw [← E5.out]
    go_wp2_with (go_at_call 74; refine HB.out.mono ?_; rintro e w6 hT; obtain rfl := hT.1; have HU := hid hT; clear hT)
    go_end0
    exact UPost.of' HU.out HR5.out HT.out
  · have bb1 : (s.status == 1) = false := beq_eq_false_iff_ne.2 hs
    have HT : Hid (tgt = s) := hid (by rw [HGO.out, if_neg hs])
    clear hs hpc hx hcl h hm hok HGO
    go_enter_d Tryz.func73, Tryz.ntmps73
    go_wp2
    go_end0
    exact ⟨rfl, by rw [HT.out]; exact HK.out, Rides.refl _ _⟩
end Ku
end Go.Proofs.YtpgbjpfpgbjbeaaGreatDoor
