/- Laid together: DcA, DmL, KsF. -/
import Derived.Test.YtccklgopcjilcaaGreatDoorJWF33
import Derived.Test.YtccklgopcjilcaaGreatDoorJWF26
import Derived.Test.YtccklgopcjilcaaGreatDoorJWF31
import Derived.Deep.RegionHeld3
/- The program's order of places of tasks: cmp.Compare and cmp.Or. -/
namespace Go.Proofs.YtccklgopcjilcaaGreatDoor
open Go.RowKit
set_option linter.unusedVariables false
namespace Gr
open Ex (hid)
/-- Which of two numbers comes first. -/
def cmpI (x y : Int) : Int := if x < y then -1 else if y < x then 1 else 0
/-- Which of two pairs of ends comes first. -/
def cmpE (x y : Int × Int) : Int := if cmpI x.1 y.1 ≠ 0 then cmpI x.1 y.1 else cmpI x.2 y.2
theorem cmpI_lt {x y : Int} : cmpI x y < 0 ↔ x < y := by
  unfold cmpI
  by_cases h : x < y
  · simp [h]
  · by_cases h2 : y < x <;> simp [h, h2]
theorem cmpI_zero {x y : Int} : cmpI x y = 0 ↔ x = y := by
  unfold cmpI
  by_cases h : x < y
  · simp [h]; omega
  · by_cases h2 : y < x
    · simp [h, h2]; omega
    · simp [h, h2]; omega
theorem cmpE_lt {x y : Int × Int} : cmpE x y < 0 ↔ x.1 < y.1 ∨ (x.1 = y.1 ∧ x.2 < y.2) := by
  unfold cmpE
  by_cases h : cmpI x.1 y.1 = 0
  · rw [if_neg (by simp [h]), cmpI_lt]
    have := cmpI_zero.1 h
    omega
  · rw [if_pos h, cmpI_lt]
    have : ¬ x.1 = y.1 := fun e => h (cmpI_zero.2 e)
    omega
set_option maxRecDepth 100000 in
set_option maxHeartbeats 400000 in
theorem implNaN (x : Int) (w : World) : Calls Tryz.prog 214 #[.int .i64 x] w fun e w' => e = .returned (.bool false) ∧ w' = w := by
  go_enter Tryz.func214, Tryz.ntmps214
  go_wp2
  go_ret
  exact ⟨by simp, rfl⟩
set_option maxRecDepth 100000 in
set_option maxHeartbeats 1000000 in
theorem implCompare (x y : Int) (w : World) : Calls Tryz.prog 176 #[.int .i64 x, .int .i64 y] w fun e w' => e = .returned (.int .i64 (cmpI x y)) ∧ w' = w := by
  by_cases h1 : x < y
  · have HV : Hid (cmpI x y = -1) := hid (by unfold cmpI; rw [if_pos h1])
    go_enter Tryz.func176, Tryz.ntmps176
    go_wp2_with (go_at_call 214; refine (implNaN _ _).mono ?_; rintro e w' ⟨rfl, rfl⟩)
    go_ret
    exact ⟨by rw [HV.out]; rfl, rfl⟩
  by_cases h2 : y < x
  · have HV : Hid (cmpI x y = 1) := hid (by unfold cmpI; rw [if_neg h1, if_pos h2])
    go_enter Tryz.func176, Tryz.ntmps176
    go_wp2_with (go_at_call 214; refine (implNaN _ _).mono ?_; rintro e w' ⟨rfl, rfl⟩)
    go_ret
    exact ⟨by rw [HV.out]; rfl, rfl⟩
  · have HV : Hid (cmpI x y = 0) := hid (by unfold cmpI; rw [if_neg h1, if_neg h2])
    go_enter Tryz.func176, Tryz.ntmps176
    go_wp2_with (go_at_call 214; refine (implNaN _ _).mono ?_; rintro e w' ⟨rfl, rfl⟩)
    go_ret
    exact ⟨by rw [HV.out]; rfl, rfl⟩
end Gr
end Go.Proofs.YtccklgopcjilcaaGreatDoor
/- The claims of a desk, plainly: they rise, so no place comes twice; the entries of their table. -/
namespace Go.Proofs.YtccklgopcjilcaaGreatDoor
open Go.RowKit Go.Deep
set_option linter.unusedVariables false
namespace Dk
open En (EngD)
open Cl (ClD)
open Eg (engC stepsD hasP_in stepsD_eq)
open Ex (inR)
open Gr (cmpE cmpE_lt)
theorem ahead_iff {a b : ClD} : aheadC a b = true ↔ a.inst < b.inst ∨ (a.inst = b.inst ∧ a.step < b.step) := by
  unfold aheadC; simp
theorem ahead_cmp {a b : ClD} : aheadC a b = true ↔ cmpE (a.inst, a.step) (b.inst, b.step) < 0 := ahead_iff.trans (cmpE_lt (x := (a.inst, a.step)) (y := (b.inst, b.step))).symm
theorem ahead_trans {a b c : ClD} (h : aheadC a b = true) (h2 : aheadC b c = true) : aheadC a c = true := by
  rw [ahead_iff] at *; omega
theorem rise {e : EngD} {cs : List ClD} {n : Nat} (h : ∀ j, j < n → claimC e cs j = 0) (i : Nat) : ∀ j, i < j → j < n → aheadC (CJ cs i) (CJ cs j) = true
  | 0, h1, _ => by omega
  | j + 1, h1, h2 => by
    have a1 := (of_claim (h (j + 1) h2)).2 (by omega)
    rw [Nat.add_sub_cancel] at a1
    by_cases e : i = j
    · rw [e]; exact a1
    · exact ahead_trans (rise h i j (by omega) (by omega)) a1
def ent (c : ClD) : Mp.Ent := ((c.inst, c.step), .int .i64 c.user)
def ents (cs : List ClD) : List Mp.Ent := cs.map ent
theorem ents_take {cs : List ClD} {k : Nat} (h : k < cs.length) : ents (cs.take (k + 1)) = ents (cs.take k) ++ [((cs[k].inst, cs[k].step), .int .i64 cs[k].user)] := by
  unfold ents
  rw [List.take_succ_eq_append_getElem h, List.map_append]; rfl
theorem fresh {e : EngD} {cs : List ClD} {k : Nat} (hk : k < cs.length) (h : ∀ j, j < k + 1 → claimC e cs j = 0) : (cs[k].inst, cs[k].step) ∉ (ents (cs.take k)).map (·.1) := by
  intro hm
  obtain ⟨p, hp, hpe⟩ := List.mem_map.1 hm
  unfold ents at hp
  obtain ⟨c, hc, rfl⟩ := List.mem_map.1 hp
  obtain ⟨j, hj, rfl⟩ := List.getElem_of_mem hc
  have hj2 : j < k := by rw [List.length_take] at hj; omega
  have hr := rise h j k hj2 (by omega)
  rw [CJ_eq (show j < cs.length by omega), CJ_eq hk, ahead_iff] at hr
  rw [List.getElem_take] at hpe
  simp only [ent, Prod.mk.injEq] at hpe
  omega
theorem open_len {e : EngD} (hs : En.Small 1048576 e) (hk : engC e = 0) {i s : Int} (hi : hasI e i = true) (h : openT e i s = true) : (0 ≤ i ∧ i < 1048577) ∧ 0 ≤ s ∧ s < 1048577 := by
  obtain ⟨i0, i1, i2⟩ := hasI_in hi
  obtain ⟨s0, s1⟩ := open_lt h
  rw [instD_eq i1] at s1
  obtain ⟨_, p1, _⟩ := hasP_in (inst_ok hk i1).1
  rw [stepsD_eq p1] at s1
  have := (hs.procs.at p1).1
  have := hs.insts.1
  omega
theorem rg_of {e : EngD} (hs : En.Small 1048576 e) (hk : engC e = 0) {c : ClD} (h : oneC e c = 0) : Mp.Rg (c.inst, c.step) := by
  obtain ⟨h1, _, h3⟩ := of_one h
  have := open_len hs hk h1 h3
  unfold Mp.Rg; dsimp only; omega
end Dk
end Go.Proofs.YtccklgopcjilcaaGreatDoor
/- The specification's ChartFault: what is wrong at a step. -/
namespace Go.Proofs.YtccklgopcjilcaaGreatDoor
open Go.RowKit Go.Deep
set_option linter.unusedVariables false
set_option linter.unusedSimpArgs false
namespace Ks
open Ex (inR evalCode evalVal vFault hid specIn)
open St (StepD)
open Ch (RunD)
open Pf
open Kc (fA fD fA_eq fD_eq cntK cntK_snoc cntK_le cntK_two wrongP within zeros fitsP chartC numC stateC kid_mem kid kid_in kind_in kids_seq kids_two kids_guard)
/-- A chart that is pointed at. -/
structure CP (w : World) (R : Nat) (v1 v2 v3 : Value) (r : RunD) : Prop where
  blk : w.heap[R]? = some (.cells #[.int .i64 r.status, .int .i64 r.now, v1, v2, v3] 112)
  row : Ch.At w 0 v1 v2 v3 r
theorem CP.below {w w' : World} {R : Nat} {v1 v2 v3 : Value} {r : RunD} (h : CP w R v1 v2 v3 r) (hb : Below w.heap.size w w') : CP w' R v1 v2 v3 r := ⟨(hb.block R (Ch.blk_lt h.blk)).trans h.blk, h.row.below hb⟩
/-- A chart that lies behind some other cells of a block. -/
structure CPo (w : World) (R O : Nat) (v1 v2 v3 : Value) (r : RunD) : Prop where
  c0 : w.cell? ⟨R, O, none⟩ = some (.int .i64 r.status)
  c1 : w.cell? ⟨R, O + 1, none⟩ = some (.int .i64 r.now)
  c2 : w.cell? ⟨R, O + 2, none⟩ = some v1
  c3 : w.cell? ⟨R, O + 3, none⟩ = some v2
  c4 : w.cell? ⟨R, O + 4, none⟩ = some v3
  row : Ch.At w 0 v1 v2 v3 r
theorem CPo.lt {w : World} {R O : Nat} {v1 v2 v3 : Value} {r : RunD} (h : CPo w R O v1 v2 v3 r) : R < w.heap.size := Nu.lt_of_cell (a := ⟨R, O, none⟩) h.c0
theorem CPo.below {w w' : World} {R O : Nat} {v1 v2 v3 : Value} {r : RunD} (h : CPo w R O v1 v2 v3 r) (hb : Below w.heap.size w w') : CPo w' R O v1 v2 v3 r :=
  ⟨Ch.old_cell hb h.lt h.c0, Ch.old_cell hb h.lt h.c1, Ch.old_cell hb h.lt h.c2, Ch.old_cell hb h.lt h.c3, Ch.old_cell hb h.lt h.c4, h.row.below hb⟩
theorem CP.o {w : World} {R : Nat} {v1 v2 v3 : Value} {r : RunD} (h : CP w R v1 v2 v3 r) : CPo w R 0 v1 v2 v3 r :=
  ⟨Ch.blk_cell h.blk 0, Ch.blk_cell h.blk 1, Ch.blk_cell h.blk 2, Ch.blk_cell h.blk 3, Ch.blk_cell h.blk 4, h.row⟩
theorem kids_at {w : World} {v : Value} {B : Nat} {l : List Nat} (ho : w.ownsRow B 2 1 v l.length (Pt.kidVals l)) (h0 : 0 < l.length) : ∃ bk cap, v = .slice (some ⟨bk, 0, none⟩) l.length cap ∧ bk < w.heap.size ∧ l.length ≤ cap ∧ cap ≤ maxLen ∧ ∀ i (h : i < l.length), w.cell? ⟨bk, i, none⟩ = some (.int .i64 (l[i] : Int)) := by
  obtain ⟨_, ⟨_, h1⟩ | ⟨g, cap, cur, rfl, hbg, hg, hle, hm, hs, hcur⟩⟩ := ho
  · omega
  · refine ⟨g, cap, rfl, (Array.getElem?_eq_some_iff.1 hg).1, by simpa using hle, hm, fun i hi => ?_⟩
    have h2 : (Pt.kidVals l)[i]? = some (.int .i64 (l[i] : Int)) := by simp [Pt.kidVals, hi]
    rw [← hcur, List.getElem?_take, if_pos (by omega)] at h2
    simp only [World.cell?, hg, Option.isSome_none, Bool.false_eq_true, if_false]
    simpa using h2
theorem own_slice {w : World} {v : Value} {B : Nat} {l : List Nat} (ho : w.ownsRow B 2 1 v l.length (Pt.kidVals l)) : ∃ a cap, v = .slice a l.length cap := by
  obtain ⟨_, ⟨h0, h1⟩ | ⟨g, cap, cur, rfl, _⟩⟩ := ho
  · exact ⟨none, 0, by rw [h0, h1]⟩
  · exact ⟨_, _, rfl⟩
theorem own_below {w w' : World} {v : Value} {B n : Nat} {l : List Value} (ho : w.ownsRow B 2 1 v n l) (hb : Below w.heap.size w w') : w'.ownsRow B 2 1 v n l := by
  obtain ⟨h0, h | ⟨g, cap, cur, rfl, hbg, hg, hle, hm, hs, hcur⟩⟩ := ho
  · exact ⟨h0, .inl h⟩
  · exact ⟨h0, .inr ⟨g, cap, cur, rfl, hbg, (hb.block g (Array.getElem?_eq_some_iff.1 hg).1).trans hg, hle, hm, hs, hcur⟩⟩
theorem nu_cell {w : World} {a : Option Addr} {n c : Nat} {l : List Int} (h : Nu.At w 0 (.slice a n c) l) (h0 : 0 < l.length) : ∃ g o, a = some ⟨g, o, none⟩ ∧ ∀ i (hi : i < l.length), w.cell? ⟨g, o + i, none⟩ = some (.int .i64 l[i]) := by
  obtain ⟨g, o, rfl, _, _⟩ := h.at h0
  refine ⟨g, o, rfl, fun i hi => ?_⟩
  obtain ⟨g', o', e, _, hx⟩ := h.at hi
  cases e
  exact hx
set_option maxRecDepth 100000 in
set_option maxHeartbeats 400000 in
theorem specTime (x : Int) (w : World) : Calls Tryz.prog 155 #[.int .i64 x] w fun e w' => e = .returned (.bool (inR x 0 1000000)) ∧ w' = w := by
  have HI := hid (specIn x 0 1000000 w)
  go_enter Tryz.func155, Tryz.ntmps155
  go_wp2_with (go_at_call 118; refine HI.out.mono ?_; rintro e w2 ⟨rfl, hw2⟩; replace hw2 := hw2.symm; subst hw2)
  go_ret
  exact ⟨rfl, rfl⟩
set_option maxRecDepth 100000 in
set_option maxHeartbeats 16000000 in
theorem specWrong (B : Nat) (ss : List StepD) (v : Value) (k R O : Nat) (r : RunD) (v1 v2 v3 : Value) (w : World) (hp : pFault ss = 0) (hk : k < ss.length) (ha : St.At w B v ss) (hc : CPo w R O v1 v2 v3 r) (hlm : r.marks.length = ss.length) (hld : r.dues.length = ss.length) :
    Calls Tryz.prog 189 #[v, .pointer (some ⟨R, O, none⟩), .int .i64 (k : Int)] w fun e w' => e = .returned (.bool (wrongP ss (fA r) (fD r) k)) ∧ Below w.heap.size w w' := by
  have hl : ss.length ≤ 24 := by have := (of_p hp).1; omega
  obtain ⟨a, cap, rfl⟩ := ha.slice
  obtain ⟨a1, c1, rfl⟩ := hc.row.vars.slice
  obtain ⟨a2, c2, rfl⟩ := hc.row.marks.slice
  obtain ⟨a3, c3, rfl⟩ := hc.row.dues.slice
  have HKD := hid (specKids B ss _ k w (by omega) ha)
  have HA := hid ha
  have HC := hid hc
  have HLM := hid hlm
  have HLD := hid hld
  have HP := hid hp
  have HV : Hid (wrongP ss (fA r) (fD r) k = if fA r k ≠ 1 then decide (0 < cntK (fA r) (kidsL ss k) 1 + cntK (fA r) (kidsL ss k) 2) || (fD r k != 0) else if ss[k].kind = 1 ∨ ss[k].kind = 3 then (cntK (fA r) (kidsL ss k) 1 != 1) || decide (0 < cntK (fA r) (kidsL ss k) 2) || (fD r k != 0) else if ss[k].kind = 4 then decide (cntK (fA r) (kidsL ss k) 1 < 1) || (cntK (fA r) (kidsL ss k) 1 + cntK (fA r) (kidsL ss k) 2 != (kidsL ss k).length) || (fD r k != 0) else if ss[k].kind = 8 then (cntK (fA r) (kidsL ss k) 1 != 1) || decide (0 < cntK (fA r) (kidsL ss k) 2) || ((fD r k != 0) != (fA r (kid ss k 0) == 1)) else if ss[k].kind = 6 then !(fD r k != 0) else if ss[k].kind = 7 then true else (fD r k != 0)) := hid (by unfold wrongP; rw [PJ_eq hk])
  have HKI := hid (kind_in hp hk)
  have HG := hid (kids_guard hp hk)
  rw [PJ_eq hk] at HKI HG
  have hlen : (kidsL ss k).length ≤ 24 := by have := kidsN_le ss ss.length k; unfold kidsL; omega
  have HKM : Hid (∀ x ∈ kidsL ss k, x < ss.length) := hid (fun x hx => (kid_mem.1 hx).1)
  have HK0 : Hid (∀ (h : 0 < (kidsL ss k).length), kid ss k 0 = (kidsL ss k)[0]) := hid (fun h => by unfold kid; rw [List.getD_eq_getElem?_getD, List.getElem?_eq_getElem h]; rfl)
  clear ha hc hlm hld hp
  generalize wrongP ss (fA r) (fD r) k = res at *
  generalize kid ss k 0 = k0 at *
  go_enter Tryz.func189, Tryz.ntmps189
  go_wp2_with fail
  refine HKD.out.mono ?_
  rintro e w1 ⟨⟨u, rfl, ho⟩, hb1⟩
  obtain ⟨au, cu, rfl⟩ := own_slice ho
  have HO := hid ho
  have HB1 := hid hb1
  clear ho hb1 HKD
  generalize kidsL ss k = ks at *
  go_wp2
  go_loopw [8, 9, 10] (fun x y z wr => ∃ i on ov : Nat, z = .int .i64 i ∧ x = .int .i64 on ∧ y = .int .i64 ov ∧ i ≤ ks.length ∧ on ≤ i ∧ ov ≤ i ∧ Hid (on = cntK (fA r) (ks.take i) 1 ∧ ov = cntK (fA r) (ks.take i) 2) ∧ Hid (Below w1.heap.size w1 wr)) (fun _ _ z _ => ks.length - (intOf z).toNat)
  case atStart => exact ⟨0, 0, 0, rfl, rfl, rfl, Nat.zero_le _, Nat.le_refl _, Nat.le_refl _, hid ⟨rfl, rfl⟩, hid (Below.refl _ _)⟩
  case round =>
    obtain ⟨i, on, ov, rfl, rfl, rfl, hi, hon, hov, HM, HBR⟩ := hrel
    have HBW := hid (HB1.out.trans (HBR.out.mono HB1.out.size))
    have hC := HC.out.below HBW.out
    have m3 : wr.cell? ⟨R, O + 3, none⟩ = some (.slice a2 r.marks.length c2) := hC.c3
    by_cases hlt : i < ks.length
    · obtain ⟨bk, cap', e, hbk, _, _, hcell⟩ := kids_at (own_below HO.out HBR.out) (by omega)
      cases e
      have n1 := hcell i hlt
      have hx := HKM.out _ (List.getElem_mem hlt)
      have hxm : ks[i] < r.marks.length := by rw [HLM.out]; exact hx
      obtain ⟨g, o, rfl, hac⟩ := nu_cell hC.row.marks (by omega)
      have n2 := hac _ hxm
      rw [← fA_eq hxm] at n2
      have q1 : (i : Int) < (ks.length : Int) := by omega
      have q2 : (0 : Int) ≤ (ks[i] : Int) := by omega
      have q3 : (ks[i] : Int) < (r.marks.length : Int) := by omega
      have HN : Hid (cntK (fA r) (ks.take (i + 1)) 1 = cntK (fA r) (ks.take i) 1 + (if fA r ks[i] = 1 then 1 else 0) ∧ cntK (fA r) (ks.take (i + 1)) 2 = cntK (fA r) (ks.take i) 2 + (if fA r ks[i] = 2 then 1 else 0)) := hid (by rw [List.take_succ_eq_append_getElem hlt, cntK_snoc, cntK_snoc]; exact ⟨rfl, rfl⟩)
      have hBd : Hid (Below w1.heap.size w1 wr.drew) := hid HBR.out.drew
      clear hcell hac hC hx hxm
      generalize ks[i] = x at *
      by_cases h1 : fA r x = 1
      · have b1 : (fA r x == 1) = true := by simp [h1]
        have HX : Hid (on + 1 = cntK (fA r) (ks.take (i + 1)) 1 ∧ ov = cntK (fA r) (ks.take (i + 1)) 2) := hid (by rw [HN.out.1, HN.out.2, if_pos h1, if_neg (by omega)]; exact ⟨by rw [HM.out.1], HM.out.2⟩)
        clear h1 HN HM
        go_wp2
        go_region
        go_wp2
        exact ⟨⟨i + 1, on + 1, ov, by simp, by simp, rfl, by omega, by omega, by omega, HX, hBd⟩, by simp [intOf]; omega⟩
      · have b1 : (fA r x == 1) = false := by simp [h1]
        by_cases h2 : fA r x = 2
        · have b2 : (fA r x == 2) = true := by simp [h2]
          have HX : Hid (on = cntK (fA r) (ks.take (i + 1)) 1 ∧ ov + 1 = cntK (fA r) (ks.take (i + 1)) 2) := hid (by rw [HN.out.1, HN.out.2, if_neg h1, if_pos h2]; exact ⟨HM.out.1, by rw [HM.out.2]⟩)
          clear h1 h2 HN HM
          go_wp2
          go_region
          go_wp2
          exact ⟨⟨i + 1, on, ov + 1, by simp, rfl, by simp, by omega, by omega, by omega, HX, hBd⟩, by simp [intOf]; omega⟩
        · have b2 : (fA r x == 2) = false := by simp [h2]
          have HX : Hid (on = cntK (fA r) (ks.take (i + 1)) 1 ∧ ov = cntK (fA r) (ks.take (i + 1)) 2) := hid (by rw [HN.out.1, HN.out.2, if_neg h1, if_neg h2]; exact HM.out)
          clear h1 h2 HN HM
          go_wp2
          go_region
          go_wp2
          exact ⟨⟨i + 1, on, ov, by simp, rfl, rfl, by omega, by omega, by omega, HX, hBd⟩, by simp [intOf]; omega⟩
    · have hie : i = ks.length := by omega
      have HM2 : Hid (on = cntK (fA r) ks 1 ∧ ov = cntK (fA r) ks 2) := hid (by have := HM.out; rwa [List.take_of_length_le (by omega)] at this)
      rw [← HM2.out.1, ← HM2.out.2] at HV
      have q1 : ¬ (i : Int) < (ks.length : Int) := by omega
      have hkm : k < r.marks.length := by rw [HLM.out]; exact hk
      have hkd : k < r.dues.length := by rw [HLD.out]; exact hk
      obtain ⟨g2, o2, rfl, hac⟩ := nu_cell hC.row.marks (by omega)
      obtain ⟨g3, o3, rfl, hdc⟩ := nu_cell hC.row.dues (by omega)
      have n2 := hac _ hkm
      have n3 := hdc _ hkd
      rw [← fA_eq hkm] at n2
      rw [← fD_eq hkd] at n3
      have m4 : wr.cell? ⟨R, O + 4, none⟩ = some (.slice (some ⟨g3, o3, none⟩) r.dues.length c3) := hC.c4
      obtain ⟨g, o, vc, ve, rfl, hg, p0, p1, p2, p3, p4, p5, _⟩ := (HA.out.below HBW.out).at hk
      have q2 : (k : Int) < (r.marks.length : Int) := by omega
      have q3 : (k : Int) < (r.dues.length : Int) := by omega
      have q4 : (k : Int) < (ss.length : Int) := by omega
      have HGK : Hid (ss[k].kind = 8 → ∃ bk cap', (Value.slice au ks.length cu) = .slice (some ⟨bk, 0, none⟩) ks.length cap' ∧ wr.cell? ⟨bk, 0, none⟩ = some (.int .i64 (k0 : Int)) ∧ wr.cell? ⟨g2, o2 + k0, none⟩ = some (.int .i64 (fA r k0)) ∧ k0 < r.marks.length) := hid (fun h8 => by
        have h2 := HG.out h8
        obtain ⟨bk, cap', e, _, _, _, hcell⟩ := kids_at (own_below HO.out HBR.out) (by omega)
        have h0 := hcell 0 (by omega)
        rw [← HK0.out (by omega)] at h0
        have hk0 : k0 < r.marks.length := by rw [HLM.out, HK0.out (by omega)]; exact HKM.out _ (List.getElem_mem _)
        have h4 := hac _ hk0
        rw [← fA_eq hk0] at h4
        exact ⟨bk, cap', e, h0, h4, hk0⟩)
      clear hac hdc hC HM HM2 p1 p2 p3 p4 p5 hkm hkd HO HKM HK0 HC HA
      generalize fA r k = ak at *
      generalize fD r k = dk at *
      generalize ss[k].kind = kd at *
      by_cases h1 : ak = 1
      · have b1 : (ak != 1) = false := by simp [h1]
        rw [if_neg (by simp [h1])] at HV
        clear h1
        have hc8 : kd = 1 ∨ kd = 2 ∨ kd = 3 ∨ kd = 4 ∨ kd = 5 ∨ kd = 6 ∨ kd = 7 ∨ kd = 8 := by have := HKI.out; omega
        clear HKI
        rcases hc8 with hkd | hkd | hkd | hkd | hkd | hkd | hkd | hkd
        · subst hkd
          rw [if_pos (by decide)] at HV
          clear HGK
          by_cases h5 : on = 1
          · have b5 : ((on : Int) != 1) = false := by simp [h5]
            by_cases h6 : 0 < ov
            · have b6 : (0 : Int) < (ov : Int) := by omega
              have HX : Hid (res = true) := hid (by rw [HV.out, decide_eq_true h6]; simp)
              clear HV h5 h6
              go_wp2
              go_ret
              exact ⟨by rw [HX.out]; rfl, HBW.out⟩
            · have b6 : ¬ (0 : Int) < (ov : Int) := by omega
              have HX : Hid (res = (dk != 0)) := hid (by rw [HV.out, decide_eq_false h6, h5]; rfl)
              clear HV h5 h6
              go_wp2
              go_ret
              exact ⟨by rw [HX.out]; rfl, HBW.out⟩
          · have b5 : ((on : Int) != 1) = true := bne_iff_ne.2 (by omega)
            have HX : Hid (res = true) := hid (by rw [HV.out, bne_iff_ne.2 h5]; rfl)
            clear HV h5
            go_wp2
            go_ret
            exact ⟨by rw [HX.out]; rfl, HBW.out⟩
        · subst hkd
          have HX : Hid (res = (dk != 0)) := hid (by rw [HV.out]; simp)
          clear HV HGK
          go_wp2
          go_ret
          exact ⟨by rw [HX.out]; rfl, HBW.out⟩
        · subst hkd
          rw [if_pos (by decide)] at HV
          clear HGK
          by_cases h5 : on = 1
          · have b5 : ((on : Int) != 1) = false := by simp [h5]
            by_cases h6 : 0 < ov
            · have b6 : (0 : Int) < (ov : Int) := by omega
              have HX : Hid (res = true) := hid (by rw [HV.out, decide_eq_true h6]; simp)
              clear HV h5 h6
              go_wp2
              go_ret
              exact ⟨by rw [HX.out]; rfl, HBW.out⟩
            · have b6 : ¬ (0 : Int) < (ov : Int) := by omega
              have HX : Hid (res = (dk != 0)) := hid (by rw [HV.out, decide_eq_false h6, h5]; rfl)
              clear HV h5 h6
              go_wp2
              go_ret
              exact ⟨by rw [HX.out]; rfl, HBW.out⟩
          · have b5 : ((on : Int) != 1) = true := bne_iff_ne.2 (by omega)
            have HX : Hid (res = true) := hid (by rw [HV.out, bne_iff_ne.2 h5]; rfl)
            clear HV h5
            go_wp2
            go_ret
            exact ⟨by rw [HX.out]; rfl, HBW.out⟩
        · subst hkd
          rw [if_neg (by decide), if_pos rfl] at HV
          clear HGK
          by_cases h5 : on < 1
          · have b5 : (on : Int) < 1 := by omega
            have HX : Hid (res = true) := hid (by rw [HV.out, decide_eq_true h5]; rfl)
            clear HV h5
            go_wp2
            go_ret
            exact ⟨by rw [HX.out]; rfl, HBW.out⟩
          · have b5 : ¬ (on : Int) < 1 := by omega
            by_cases h6 : on + ov = ks.length
            · have b6 : (((on : Int) + (ov : Int)) != (ks.length : Int)) = false := by simp; omega
              have HX : Hid (res = (dk != 0)) := hid (by rw [HV.out, decide_eq_false h5, bne_eq_false_iff_eq.2 h6]; rfl)
              clear HV h5 h6
              go_wp2
              go_ret
              exact ⟨by rw [HX.out]; rfl, HBW.out⟩
            · have b6 : (((on : Int) + (ov : Int)) != (ks.length : Int)) = true := bne_iff_ne.2 (by omega)
              have HX : Hid (res = true) := hid (by rw [HV.out, bne_iff_ne.2 h6]; simp)
              clear HV h5 h6
              go_wp2
              go_ret
              exact ⟨by rw [HX.out]; rfl, HBW.out⟩
        · subst hkd
          have HX : Hid (res = (dk != 0)) := hid (by rw [HV.out]; simp)
          clear HV HGK
          go_wp2
          go_ret
          exact ⟨by rw [HX.out]; rfl, HBW.out⟩
        · subst hkd
          have HX : Hid (res = (!(dk != 0))) := hid (by rw [HV.out]; simp)
          clear HV HGK
          go_wp2
          go_ret
          exact ⟨by rw [HX.out]; rfl, HBW.out⟩
        · subst hkd
          have HX : Hid (res = true) := hid (by rw [HV.out]; simp)
          clear HV HGK
          go_wp2
          go_ret
          exact ⟨by rw [HX.out]; rfl, HBW.out⟩
        · subst hkd
          rw [if_neg (by decide), if_neg (by decide), if_pos rfl] at HV
          obtain ⟨bk, cap2, e, z1, z2, z3⟩ := HGK.out rfl
          cases e
          have z5 : (0 : Int) < (ks.length : Int) := by have := HG.out rfl; omega
          clear HGK HG
          have z4 : (k0 : Int) < (r.marks.length : Int) := by omega
          by_cases h5 : on = 1
          · have b5 : ((on : Int) != 1) = false := by simp [h5]
            have b5e : ((on : Int) == 1) = true := by simp [h5]
            by_cases h6 : 0 < ov
            · have b6 : decide ((0 : Int) < (ov : Int)) = true := decide_eq_true (by omega)
              have b6n : decide (0 < ov) = true := decide_eq_true h6
              have HX : Hid (res = true) := hid (by rw [HV.out, decide_eq_true h6]; simp)
              clear HV h5 h6
              go_wp2
              go_quiet (fail)
              go_wp2
              go_ret
              exact ⟨by rw [HX.out]; rfl, Ints.below_drewN HBW.out nq⟩
            · have b6 : decide ((0 : Int) < (ov : Int)) = false := decide_eq_false (by omega)
              have b6n : decide (0 < ov) = false := decide_eq_false h6
              have HX : Hid (res = ((dk != 0) != (fA r k0 == 1))) := hid (by rw [HV.out, decide_eq_false h6, h5]; rfl)
              clear HV h5 h6
              go_wp2
              go_quiet (fail)
              go_wp2
              go_ret
              exact ⟨by rw [HX.out]; rfl, Ints.below_drewN HBW.out nq⟩
          · have b5 : ((on : Int) != 1) = true := bne_iff_ne.2 (by omega)
            have b5e : ((on : Int) == 1) = false := beq_eq_false_iff_ne.2 (by omega)
            have HX : Hid (res = true) := hid (by rw [HV.out, bne_iff_ne.2 h5]; rfl)
            clear HV h5
            go_wp2
            go_quiet (fail)
            go_wp2
            go_ret
            exact ⟨by rw [HX.out]; rfl, Ints.below_drewN HBW.out nq⟩
      · have b1 : (ak != 1) = true := bne_iff_ne.2 h1
        rw [if_pos h1] at HV
        clear h1 HGK
        by_cases h0 : 0 < on + ov
        · have q5 : (0 : Int) < (on : Int) + (ov : Int) := by omega
          have HX : Hid (res = true) := hid (by rw [HV.out, decide_eq_true h0]; rfl)
          clear HV h0
          go_wp2
          go_ret
          exact ⟨by rw [HX.out]; rfl, HBW.out⟩
        · have q5 : ¬ (0 : Int) < (on : Int) + (ov : Int) := by omega
          have HX : Hid (res = (dk != 0)) := hid (by rw [HV.out, decide_eq_false h0]; rfl)
          clear HV h0
          go_wp2
          go_ret
          exact ⟨by rw [HX.out]; rfl, HBW.out⟩
end Ks
end Go.Proofs.YtccklgopcjilcaaGreatDoor
