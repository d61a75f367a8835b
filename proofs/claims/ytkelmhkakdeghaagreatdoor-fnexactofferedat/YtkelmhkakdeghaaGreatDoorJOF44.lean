/- ClaimsOf on both sides. Condition on the program's: the table of rules lies as its initialiser lays it. -/
import Derived.Test.YtkelmhkakdeghaaGreatDoorJOF15
import Derived.Test.YtkelmhkakdeghaaGreatDoorJOF39
import Derived.Test.YtkelmhkakdeghaaGreatDoorJOF42
import Derived.Test.YtkelmhkakdeghaaGreatDoorJOF43
import Derived.Test.YtkelmhkakdeghaaGreatDoorJOF3
import Derived.Deep.RegionHeld3
import Derived.Deep.Upon
namespace Go.Proofs.YtkelmhkakdeghaaGreatDoor
open Go.RowKit Go.Deep
set_option linter.unusedVariables false
set_option linter.unusedSimpArgs false
namespace Of
open Dk (DeskD deskC isU implDeskFault specFault implIsUser specUser)
open Cl (ClD)
open Pf (Rul)
open Ex (hid)
open St (old_cell)
open Ch (blk_cell blk_lt blk_free new_blk new_at)
def ownC (d : DeskD) (u : Int) : Int := if deskC d ≠ 0 then deskC d else if isU u = true then 0 else 3
def ownL (d : DeskD) (u : Int) : List ClD := if ownC d u = 0 then d.claims.filter (fun c => c.user == u) else []
theorem own_bad {d : DeskD} {u : Int} (h : deskC d ≠ 0) : ownC d u = deskC d := by unfold ownC; rw [if_pos h]
theorem own_range {d : DeskD} {u : Int} (h : deskC d = 0) (h2 : isU u = false) : ownC d u = 3 := by unfold ownC; rw [if_neg (by simp [h]), if_neg (by simp [h2])]
theorem own_ok {d : DeskD} {u : Int} (h : deskC d = 0) (h2 : isU u = true) : ownC d u = 0 := by unfold ownC; rw [if_neg (by simp [h]), if_pos h2]
theorem own_nil {d : DeskD} {u : Int} (h : ownC d u ≠ 0) : ownL d u = [] := by unfold ownL; rw [if_neg h]
theorem own_fil {d : DeskD} {u : Int} (h : ownC d u = 0) : ownL d u = d.claims.filter (fun c => c.user == u) := by unfold ownL; rw [if_pos h]
theorem own_len {d : DeskD} {u : Int} (h : Dk.Small 1048576 d) : (ownL d u).length ≤ 1048576 := by
  have := h.claims
  unfold ownL
  split
  · have := List.length_filter_le (fun c => c.user == u) d.claims; omega
  · simp
theorem fil_take {cs : List ClD} {u : Int} {k : Nat} (h : k < cs.length) : (cs.take (k + 1)).filter (fun c => c.user == u) = if (cs[k].user == u) = true then (cs.take k).filter (fun c => c.user == u) ++ [cs[k]] else (cs.take k).filter (fun c => c.user == u) := by
  rw [List.take_succ_eq_append_getElem h, List.filter_append]
  cases hu : (cs[k].user == u)
  · simp [List.filter_cons, hu]
  · simp [List.filter_cons, hu]
theorem two {w : World} {b : Nat} {t : TypeId} {z0 z1 : Value} (h : w.heap[b]? = some (.cells #[z0, z1] t)) :
    w.cell? ⟨b, 0, none⟩ = some z0 ∧ w.cell? ⟨b, 1, none⟩ = some z1 ∧ (∀ i, w.frozen? ⟨b, i, none⟩ = false) ∧ b < w.heap.size :=
  ⟨blk_cell h 0, blk_cell h 1, fun i => blk_free h i, blk_lt h⟩
theorem _root_.Go.Proofs.YtkelmhkakdeghaaGreatDoor.Ch.below2 {D b : Nat} {x w : World} (h : Below D x w) (hb : D ≤ b) (u0 u1 : Value) : Below D x ((w.setCell ⟨b, 0, none⟩ u0).setCell ⟨b, 1, none⟩ u1) := St.setB (St.setB h hb _) hb _
theorem row_three (w : World) {n : Nat} (hn : w.heap.size = n) (c : ClD) (e : TypeId) : Ap.Row (w.alloc (.cells #[.int .i64 c.inst, .int .i64 c.step, .int .i64 c.user] e)) 3 (.slice (some ⟨n, 0, none⟩) 1 1) 1 (cv c) := by
  refine ⟨_, _, rfl, rfl, (by simp [cv, Value.oneCell']), .inr ⟨_, rfl, fun j u hu => ?_⟩⟩
  have hk := new_blk w (.cells #[.int .i64 c.inst, .int .i64 c.step, .int .i64 c.user] e)
  rw [hn] at hk
  match j with
  | 0 => simp [cv] at hu; subst hu; exact blk_cell hk 0
  | 1 => simp [cv] at hu; subst hu; exact blk_cell hk 1
  | 2 => simp [cv] at hu; subst hu; exact blk_cell hk 2
  | n + 3 => simp [cv] at hu
theorem row_three_d (w : World) (c : ClD) (e : TypeId) : Ap.Row (w.drew.alloc (.cells #[.int .i64 c.inst, .int .i64 c.step, .int .i64 c.user] e)) 3 (.slice (some ⟨w.heap.size, 0, none⟩) 1 1) 1 (cv c) := row_three w.drew rfl c e
theorem own_snoc {w : World} {B : Nat} {v : Value} {xs : List ClD} {c : ClD} (h : w.ownsRow B 127 3 v (xs.length + 1) (cvals xs ++ cv c)) : COwn w B v (xs ++ [c]) := by
  unfold COwn
  rw [cvals_snoc, List.length_append, List.length_singleton]; exact h
set_option maxRecDepth 100000 in
set_option maxHeartbeats 16000000 in
theorem implClaimsOf (d : DeskD) (u : Int) (vp vi vc : Value) (w : World) (hs : Dk.Small 1048576 d) (ha : Dk.At w 0 vp vi vc d) (hr : Rul w) :
    Calls Tryz.prog 37 #[.agg #[vp, vi, .int .i64 d.eng.now, vc], .int .i64 u] w (OPost (ownC d u) (ownL d u) w) := by
  obtain ⟨⟨a1, k1, rfl⟩, ⟨a2, k2, rfl⟩, a3, k3, rfl⟩ := ha.slices
  have hl3 := hs.claims
  obtain ⟨w0, e0⟩ : ∃ w0, w0 = (w.alloc (.cells #[.slice a1 d.eng.procs.length k1, .slice a2 d.eng.insts.length k2, .int .i64 d.eng.now, .slice a3 d.claims.length k3] 53)).alloc (.cells #[.int .i64 0, .slice none 0 0] 58) := ⟨_, rfl⟩
  have hb0 : Below w.heap.size w w0 := by rw [e0]; exact ((Below.refl _ w).alloc (Nat.le_refl _) _).alloc (by simp) _
  have hk0 : w0.heap[w.heap.size]? = some (.cells #[.slice a1 d.eng.procs.length k1, .slice a2 d.eng.insts.length k2, .int .i64 d.eng.now, .slice a3 d.claims.length k3] 53) := by rw [e0, Below.heap_alloc _ _ _ (by simp), new_blk]
  have hr0 : w0.heap[(w.heap.size + 1)]? = some (.cells #[.int .i64 0, .slice none 0 0] 58) := by rw [e0]; exact new_at (by simp) _
  have HA := hid ha
  have HE := hid (implDeskFault d _ _ _ w0 hs (ha.below hb0) (hr.below hb0 hr.lt))
  obtain ⟨cc, hcc⟩ : ∃ cc, ownC d u = cc := ⟨_, rfl⟩
  obtain ⟨xx, hxx⟩ : ∃ xx, ownL d u = xx := ⟨_, rfl⟩
  rw [hcc, hxx]
  have HCC := hid hcc
  have HXX := hid hxx
  have HB0 := hid hb0
  clear ha hb0 hs hcc hxx hr
  obtain ⟨i0, hi0, hz0, hz1, hz2⟩ := Ex.info_parts Cl.infoOne
  go_enter Tryz.func37, Tryz.ntmps37
  go_wp2_with fail
  rw [← e0]
  clear e0
  refine HE.out.mono ?_
  rintro z w1 ⟨rfl, hb1⟩
  have HB1 := hid (HB0.out.trans (hb1.mono HB0.out.size))
  have HK1 : Hid (w1.heap[w.heap.size]? = some (.cells #[.slice a1 d.eng.procs.length k1, .slice a2 d.eng.insts.length k2, .int .i64 d.eng.now, .slice a3 d.claims.length k3] 53)) := hid ((hb1.block _ (blk_lt hk0)).trans hk0)
  have HR1 : Hid (w1.heap[(w.heap.size + 1)]? = some (.cells #[.int .i64 0, .slice none 0 0] 58)) := hid ((hb1.block _ (blk_lt hr0)).trans hr0)
  clear hb1 hk0 hr0 HE HB0
  by_cases hz : deskC d = 0
  case neg =>
    have HN : Hid (cc = deskC d ∧ xx = []) := hid ⟨HCC.out.symm.trans (own_bad hz), HXX.out.symm.trans (own_nil (by rw [own_bad hz]; exact hz))⟩
    have b0 : (deskC d != 0) = true := bne_iff_ne.2 hz
    generalize deskC d = pc at *
    obtain ⟨n0, n1, nf, nl⟩ := two HR1.out
    have f0 := nf 0
    have f1 := nf 1
    clear nf
    clear hz
    go_wp2
    refine bodyPost_ret (v := .agg #[.int .i64 pc, .slice none 0 0]) (by simp [results, Tryz.results37, go_sem, n0, n1]) rfl ⟨⟨_, by rw [HN.out.1], by rw [HN.out.2]; exact COwn.nil _ _⟩, Ch.below2 HB1.out (by omega) _ _⟩
  have HZ := hid hz
  rw [hz]
  have b0 : ((0 : Int) != 0) = false := rfl
  clear hz
  go_wp2_with fail
  refine (implIsUser u _).mono ?_
  rintro z w2 ⟨rfl, hw⟩
  replace hw := hw.symm
  subst hw
  cases hu : isU u
  · have HN : Hid (cc = 3 ∧ xx = []) := hid ⟨HCC.out.symm.trans (own_range HZ.out hu), HXX.out.symm.trans (own_nil (by rw [own_range HZ.out hu]; decide))⟩
    obtain ⟨n0, n1, nf, nl⟩ := two HR1.out
    have f0 := nf 0
    have f1 := nf 1
    clear nf
    clear hu
    go_wp2
    refine bodyPost_ret (v := .agg #[.int .i64 3, .slice none 0 0]) (by simp [results, Tryz.results37, go_sem, n0, n1]) rfl ⟨⟨_, by rw [HN.out.1], by rw [HN.out.2]; exact COwn.nil _ _⟩, Ch.below2 HB1.out (by omega) _ _⟩
  have HN : Hid (cc = 0 ∧ xx = d.claims.filter (fun c => c.user == u)) := hid ⟨HCC.out.symm.trans (own_ok HZ.out hu), HXX.out.symm.trans (own_fil (own_ok HZ.out hu))⟩
  clear hu HCC HXX
  have m3 := blk_cell HK1.out 3
  replace m3 : w1.cell? ⟨w.heap.size, 3, none⟩ = some (.slice a3 d.claims.length k3) := m3
  have lk := blk_lt HK1.out
  go_wp2_with fail
  clear m3
  go_loopw [22, 6, 8] (fun x y _ wr => ∃ (k : Nat) (v : Value), x = .int .i64 k ∧ y = v ∧ k ≤ d.claims.length ∧ Hid (COwn wr w1.heap.size v ((d.claims.take k).filter (fun c => c.user == u))) ∧ Hid (Below w1.heap.size w1 wr)) (fun x _ _ _ => d.claims.length - (intOf x).toNat)
  case atStart => exact ⟨0, _, rfl, rfl, Nat.zero_le _, hid (COwn.nil _ _), hid (Below.refl _ _)⟩
  case round =>
    obtain ⟨k, v, rfl, rfl, hk, HO, HBr⟩ := hrel
    obtain ⟨va, vk, hv⟩ := HO.out.slice
    subst hv
    have HBw := hid (HB1.out.trans (HBr.out.mono HB1.out.size))
    have lr := HBr.out.size
    by_cases hlt : k < d.claims.length
    · obtain ⟨g, o, rfl, hg, c0, c1, c2⟩ := (HA.out.below HBw.out).claims.at hlt
      have t1 : (k : Int) < (d.claims.length : Int) := by omega
      have htk := fil_take (u := u) hlt
      have hfl : ((d.claims.take k).filter (fun c => c.user == u)).length ≤ k := Nat.le_trans (List.length_filter_le _ _) (by rw [List.length_take]; omega)
      generalize hxs : (d.claims.take k).filter (fun c => c.user == u) = xs at *
      clear hxs
      have hb2 : Below wr.heap.size wr (wr.alloc (.cells #[.int .i64 d.claims[k].inst, .int .i64 d.claims[k].step, .int .i64 d.claims[k].user] 127)) := (Below.refl _ wr).alloc (Nat.le_refl _) _
      have HB2 : Hid (Below w1.heap.size w1 (wr.alloc (.cells #[.int .i64 d.claims[k].inst, .int .i64 d.claims[k].step, .int .i64 d.claims[k].user] 127))) := hid (HBr.out.trans (hb2.mono lr))
      have HO2 := hid (HO.out.below hb2)
      clear hb2
      cases hu : (d.claims[k].user == u)
      · rw [hu] at htk
        have HT : Hid (_ = xs) := hid htk
        clear htk
        go_wp2
        exact ⟨⟨k + 1, _, by simp, rfl, by omega, hid (by rw [HT.out]; exact HO2.out), HB2⟩, by simp [intOf]; omega⟩
      · rw [hu] at htk
        have HT : Hid (_ = xs ++ [d.claims[k]]) := hid htk
        clear htk
        have hb3 : Below (wr.heap.size + 1) (wr.alloc (.cells #[.int .i64 d.claims[k].inst, .int .i64 d.claims[k].step, .int .i64 d.claims[k].user] 127)) ((wr.alloc (.cells #[.int .i64 d.claims[k].inst, .int .i64 d.claims[k].step, .int .i64 d.claims[k].user] 127)).alloc (.cells #[.int .i64 d.claims[k].inst, .int .i64 d.claims[k].step, .int .i64 d.claims[k].user] 127)) := (Below.refl _ _).alloc (by simp) _
        have hsz : (wr.alloc (.cells #[.int .i64 d.claims[k].inst, .int .i64 d.claims[k].step, .int .i64 d.claims[k].user] 127)).heap.size = wr.heap.size + 1 := by simp
        have HB3 : Hid (Below w1.heap.size w1 ((wr.alloc (.cells #[.int .i64 d.claims[k].inst, .int .i64 d.claims[k].step, .int .i64 d.claims[k].user] 127)).alloc (.cells #[.int .i64 d.claims[k].inst, .int .i64 d.claims[k].step, .int .i64 d.claims[k].user] 127))) := hid (HB2.out.trans (hb3.mono (by omega)))
        have HO3 := hid (HO2.out.below (by rw [hsz]; exact hb3))
        have HROW : Hid (Ap.Row ((wr.alloc (.cells #[.int .i64 d.claims[k].inst, .int .i64 d.claims[k].step, .int .i64 d.claims[k].user] 127)).alloc (.cells #[.int .i64 d.claims[k].inst, .int .i64 d.claims[k].step, .int .i64 d.claims[k].user] 127)) 3 (.slice (some ⟨wr.heap.size + 1, 0, none⟩) 1 1) 1 (cv d.claims[k])) := hid (row_three _ (by simp) _ _)
        clear hb3 hsz
        go_wp2_with (at_builtin; go_must (refine Ap.wpList_any _ rfl _ _ 51 rfl w1.heap.size 127 i0 (.agg #[.int .i64 0, .int .i64 0, .int .i64 0]) 3 24 Tryz.underlying51 hi0 hz0 hz1 hz2 rfl (by decide) _ _ _ rfl HO3.out _ _ _ rfl HROW.out (by unfold maxLen; omega) (by omega) (by simp; omega) _ rfl ?_); intro a9 c9 w9 hown9 hg9 hat9)
        have HO9 : Hid (COwn w9 w1.heap.size (.slice a9 (xs.length + 1) c9) (xs ++ [d.claims[k]])) := hid (own_snoc hown9)
        have HB9 : Hid (Below w1.heap.size w1 w9) := hid (HB3.out.grown hg9 (by simp; omega) (fun b e => (HO3.out.lt e).1))
        clear hown9 hg9 hat9
        go_wp2
        exact ⟨⟨k + 1, _, by simp, rfl, by omega, hid (by rw [HT.out]; exact HO9.out), HB9⟩, by simp [intOf]; omega⟩
    · obtain rfl : k = d.claims.length := by omega
      rw [List.take_of_length_le (Nat.le_refl _)] at HO
      have HRr := hid ((HBr.out.block _ (blk_lt HR1.out)).trans HR1.out)
      obtain ⟨n0, n1, nf, nl⟩ := two HRr.out
      have f0 := nf 0
      have f1 := nf 1
      clear nf
      clear lk
      go_wp2
      refine bodyPost_ret (v := .agg #[.int .i64 0, .slice va (d.claims.filter (fun c => c.user == u)).length vk]) (by simp [results, Tryz.results37, go_sem, n0, n1]) rfl ⟨⟨_, by rw [HN.out.1], by rw [HN.out.2]; exact (HO.out.kept (fun b e => by have := (HO.out.lt e).1; have := blk_lt HR1.out; repeat rw [Below.heap_setCell _ _ _ _ (by dsimp only; omega)])).mono HB1.out.size⟩, Ch.below2 HBw.out (by omega) _ _⟩
set_option maxRecDepth 100000 in
set_option maxHeartbeats 16000000 in
theorem specClaimsOf (B : Nat) (d : DeskD) (u : Int) (vp vi vc : Value) (w : World) (hs : Dk.Small 1048576 d) (ha : Dk.At w B vp vi vc d) :
    Calls Tryz.prog 36 #[.agg #[vp, vi, .int .i64 d.eng.now, vc], .int .i64 u] w (OPost (ownC d u) (ownL d u) w) := by
  obtain ⟨⟨a1, k1, rfl⟩, ⟨a2, k2, rfl⟩, a3, k3, rfl⟩ := ha.slices
  have hl3 := hs.claims
  obtain ⟨w0, e0⟩ : ∃ w0, w0 = (w.alloc (.cells #[.slice a1 d.eng.procs.length k1, .slice a2 d.eng.insts.length k2, .int .i64 d.eng.now, .slice a3 d.claims.length k3] 53)).alloc (.cells #[.int .i64 0, .slice none 0 0] 58) := ⟨_, rfl⟩
  have hb0 : Below w.heap.size w w0 := by rw [e0]; exact ((Below.refl _ w).alloc (Nat.le_refl _) _).alloc (by simp) _
  have hk0 : w0.heap[w.heap.size]? = some (.cells #[.slice a1 d.eng.procs.length k1, .slice a2 d.eng.insts.length k2, .int .i64 d.eng.now, .slice a3 d.claims.length k3] 53) := by rw [e0, Below.heap_alloc _ _ _ (by simp), new_blk]
  have hr0 : w0.heap[(w.heap.size + 1)]? = some (.cells #[.int .i64 0, .slice none 0 0] 58) := by rw [e0]; exact new_at (by simp) _
  have HA := hid ha
  have HE := hid (specFault B w.heap.size d _ _ _ w0 hs (ha.below hb0) hk0)
  obtain ⟨cc, hcc⟩ : ∃ cc, ownC d u = cc := ⟨_, rfl⟩
  obtain ⟨xx, hxx⟩ : ∃ xx, ownL d u = xx := ⟨_, rfl⟩
  rw [hcc, hxx]
  have HCC := hid hcc
  have HXX := hid hxx
  have HB0 := hid hb0
  clear ha hb0 hs hcc hxx
  obtain ⟨i0, hi0, hz0, hz1, hz2⟩ := Ex.info_parts Cl.infoOne
  go_enter Tryz.func36, Tryz.ntmps36
  go_wp2_with fail
  rw [← e0]
  clear e0
  refine HE.out.mono ?_
  rintro z w1 ⟨rfl, hb1⟩
  have HB1 := hid (HB0.out.trans (hb1.mono HB0.out.size))
  have HK1 : Hid (w1.heap[w.heap.size]? = some (.cells #[.slice a1 d.eng.procs.length k1, .slice a2 d.eng.insts.length k2, .int .i64 d.eng.now, .slice a3 d.claims.length k3] 53)) := hid ((hb1.block _ (blk_lt hk0)).trans hk0)
  have HR1 : Hid (w1.heap[(w.heap.size + 1)]? = some (.cells #[.int .i64 0, .slice none 0 0] 58)) := hid ((hb1.block _ (blk_lt hr0)).trans hr0)
  clear hb1 hk0 hr0 HE HB0
  by_cases hz : deskC d = 0
  case neg =>
    have HN : Hid (cc = deskC d ∧ xx = []) := hid ⟨HCC.out.symm.trans (own_bad hz), HXX.out.symm.trans (own_nil (by rw [own_bad hz]; exact hz))⟩
    have b0 : (deskC d != 0) = true := bne_iff_ne.2 hz
    generalize deskC d = pc at *
    obtain ⟨n0, n1, nf, nl⟩ := two HR1.out
    have f0 := nf 0
    have f1 := nf 1
    clear nf
    clear hz
    go_wp2
    refine bodyPost_ret (v := .agg #[.int .i64 pc, .slice none 0 0]) (by simp [results, Tryz.results36, go_sem, n0, n1]) rfl ⟨⟨_, by rw [HN.out.1], by rw [HN.out.2]; exact COwn.nil _ _⟩, Ch.below2 HB1.out (by omega) _ _⟩
  have HZ := hid hz
  rw [hz]
  have b0 : ((0 : Int) != 0) = false := rfl
  clear hz
  go_wp2_with fail
  refine (specUser u _).mono ?_
  rintro z w2 ⟨rfl, hw⟩
  replace hw := hw.symm
  subst hw
  cases hu : isU u
  · have HN : Hid (cc = 3 ∧ xx = []) := hid ⟨HCC.out.symm.trans (own_range HZ.out hu), HXX.out.symm.trans (own_nil (by rw [own_range HZ.out hu]; decide))⟩
    obtain ⟨n0, n1, nf, nl⟩ := two HR1.out
    have f0 := nf 0
    have f1 := nf 1
    clear nf
    clear hu
    go_wp2
    refine bodyPost_ret (v := .agg #[.int .i64 3, .slice none 0 0]) (by simp [results, Tryz.results36, go_sem, n0, n1]) rfl ⟨⟨_, by rw [HN.out.1], by rw [HN.out.2]; exact COwn.nil _ _⟩, Ch.below2 HB1.out (by omega) _ _⟩
  have HN : Hid (cc = 0 ∧ xx = d.claims.filter (fun c => c.user == u)) := hid ⟨HCC.out.symm.trans (own_ok HZ.out hu), HXX.out.symm.trans (own_fil (own_ok HZ.out hu))⟩
  clear hu HCC HXX
  have m3 := blk_cell HK1.out 3
  replace m3 : w1.cell? ⟨w.heap.size, 3, none⟩ = some (.slice a3 d.claims.length k3) := m3
  have lk := blk_lt HK1.out
  obtain ⟨O, eO⟩ : ∃ O, O = w1.heap.size := ⟨_, rfl⟩
  obtain ⟨wO, eW⟩ : ∃ wO, wO = w1.alloc (.cells #[.int .i64 0, .slice none 0 0] 58) := ⟨_, rfl⟩
  have hbO : Below w1.heap.size w1 wO := by rw [eW]; exact (Below.refl _ w1).alloc (Nat.le_refl _) _
  have HKO : Hid (wO.heap[O]? = some (.cells #[.int .i64 0, .slice none 0 0] 58)) := hid (by rw [eW, eO]; exact new_blk _ _)
  have HBO := hid hbO
  have HO1 : Hid (w1.heap.size ≤ O) := hid (Nat.le_of_eq eO.symm)
  have HOz : Hid (wO.heap.size = O + 1) := hid (by rw [eW, eO]; simp)
  clear hbO
  go_wp2_with fail
  rw [← eW, ← eO]
  clear eW eO m3 lk
  go_loopw [7] (fun x wr => ∃ (k : Nat) (v : Value), x = .int .i64 k ∧ k ≤ d.claims.length ∧ Hid (wr.heap[O]? = some (.cells #[.int .i64 0, v] 58)) ∧ Hid (COwn wr (O + 1) v ((d.claims.take k).filter (fun c => c.user == u))) ∧ Hid (Below w1.heap.size w1 wr) ∧ Hid (O + 1 ≤ wr.heap.size)) (fun x _ => d.claims.length - (intOf x).toNat)
  case atStart => exact ⟨0, _, rfl, Nat.zero_le _, HKO, hid (COwn.nil _ _), HBO, hid (Nat.le_of_eq HOz.out.symm)⟩
  case round =>
    clear HKO HBO HOz
    obtain ⟨k, v, rfl, hk, HKO, HO, HBr, HOz⟩ := hrel
    obtain ⟨va, vk, hv⟩ := HO.out.slice
    subst hv
    have HBw := hid (HB1.out.trans (HBr.out.mono HB1.out.size))
    have lr := HBr.out.size
    have HKr := hid ((HBr.out.block _ (blk_lt HK1.out)).trans HK1.out)
    have m3 := blk_cell HKr.out 3
    replace m3 : wr.cell? ⟨w.heap.size, 3, none⟩ = some (.slice a3 d.claims.length k3) := m3
    have lk := blk_lt HKr.out
    by_cases hlt : k < d.claims.length
    · obtain ⟨g, o, rfl, hg, c0, c1, c2⟩ := (HA.out.below HBw.out).claims.at hlt
      have t1 : (k : Int) < (d.claims.length : Int) := by omega
      have htk := fil_take (u := u) hlt
      have hfl : ((d.claims.take k).filter (fun c => c.user == u)).length ≤ k := Nat.le_trans (List.length_filter_le _ _) (by rw [List.length_take]; omega)
      generalize hxs : (d.claims.take k).filter (fun c => c.user == u) = xs at *
      clear hxs
      have HGW := hid hg
      cases hu : (d.claims[k].user == u)
      · rw [hu] at htk
        have HT : Hid (_ = xs) := hid htk
        clear htk
        go_wp2
        exact ⟨⟨k + 1, _, by simp, by omega, HKO, hid (by rw [HT.out]; exact HO.out), HBr, HOz⟩, by simp [intOf]; omega⟩
      · rw [hu] at htk
        have HT : Hid (_ = xs ++ [d.claims[k]]) := hid htk
        clear htk
        have HSd : Hid (wr.drew.heap[w.heap.size]? = some (.cells #[.slice a1 d.eng.procs.length k1, .slice a2 d.eng.insts.length k2, .int .i64 d.eng.now, .slice (some ⟨g, o, none⟩) d.claims.length k3] 53) ∧ wr.drew.cell? ⟨g, o + k * 3, none⟩ = some (.int .i64 d.claims[k].inst) ∧ wr.drew.cell? ⟨g, o + k * 3 + 1, none⟩ = some (.int .i64 d.claims[k].step) ∧ wr.drew.cell? ⟨g, o + k * 3 + 2, none⟩ = some (.int .i64 d.claims[k].user)) := hid ⟨HKr.out, c0, c1, c2⟩
        have HGL : Hid (g < wr.heap.size) := hid HGW.out
        have HOd : Hid (COwn wr.drew (O + 1) (.slice va xs.length vk) xs) := hid (HO.out.below (Below.refl wr.heap.size wr).drew)
        have HKd : Hid (wr.drew.heap[O]? = some (.cells #[.int .i64 0, .slice va xs.length vk] 58)) := hid HKO.out
        have hba : Below wr.drew.heap.size wr.drew (wr.drew.alloc (.cells #[.int .i64 d.claims[k].inst, .int .i64 d.claims[k].step, .int .i64 d.claims[k].user] 127)) := (Below.refl _ _).alloc (Nat.le_refl _) _
        have HSa : Hid ((wr.drew.alloc (.cells #[.int .i64 d.claims[k].inst, .int .i64 d.claims[k].step, .int .i64 d.claims[k].user] 127)).heap[w.heap.size]? = some (.cells #[.slice a1 d.eng.procs.length k1, .slice a2 d.eng.insts.length k2, .int .i64 d.eng.now, .slice (some ⟨g, o, none⟩) d.claims.length k3] 53) ∧ (wr.drew.alloc (.cells #[.int .i64 d.claims[k].inst, .int .i64 d.claims[k].step, .int .i64 d.claims[k].user] 127)).cell? ⟨g, o + k * 3, none⟩ = some (.int .i64 d.claims[k].inst) ∧ (wr.drew.alloc (.cells #[.int .i64 d.claims[k].inst, .int .i64 d.claims[k].step, .int .i64 d.claims[k].user] 127)).cell? ⟨g, o + k * 3 + 1, none⟩ = some (.int .i64 d.claims[k].step) ∧ (wr.drew.alloc (.cells #[.int .i64 d.claims[k].inst, .int .i64 d.claims[k].step, .int .i64 d.claims[k].user] 127)).cell? ⟨g, o + k * 3 + 2, none⟩ = some (.int .i64 d.claims[k].user)) := hid ⟨(hba.block _ (blk_lt HSd.out.1)).trans HSd.out.1, old_cell hba HGL.out HSd.out.2.1, old_cell hba HGL.out HSd.out.2.2.1, old_cell hba HGL.out HSd.out.2.2.2⟩
        have HKa : Hid ((wr.drew.alloc (.cells #[.int .i64 d.claims[k].inst, .int .i64 d.claims[k].step, .int .i64 d.claims[k].user] 127)).heap[O]? = some (.cells #[.int .i64 0, .slice va xs.length vk] 58)) := hid ((hba.block _ (blk_lt HKd.out)).trans HKd.out)
        have HOa : Hid (COwn (wr.drew.alloc (.cells #[.int .i64 d.claims[k].inst, .int .i64 d.claims[k].step, .int .i64 d.claims[k].user] 127)) (O + 1) (.slice va xs.length vk) xs) := hid (HOd.out.below hba)
        have HBa : Hid (Below w1.heap.size w1 (wr.drew.alloc (.cells #[.int .i64 d.claims[k].inst, .int .i64 d.claims[k].step, .int .i64 d.claims[k].user] 127))) := hid ((HBr.out.drew).trans (hba.mono lr))
        have HROW : Hid (Ap.Row (wr.drew.alloc (.cells #[.int .i64 d.claims[k].inst, .int .i64 d.claims[k].step, .int .i64 d.claims[k].user] 127)) 3 (.slice (some ⟨wr.heap.size, 0, none⟩) 1 1) 1 (cv d.claims[k])) := hid (row_three_d wr _ _)
        have HSZ : Hid ((wr.drew.alloc (.cells #[.int .i64 d.claims[k].inst, .int .i64 d.claims[k].step, .int .i64 d.claims[k].user] 127)).heap.size = wr.heap.size + 1) := hid (World.size_alloc _ _)
        have HSY : Hid ((wr.alloc (.cells #[.int .i64 d.claims[k].inst, .int .i64 d.claims[k].step, .int .i64 d.claims[k].user] 127)).drew.heap.size = wr.heap.size + 1) := hid (World.size_alloc _ _)
        clear hba HKO HKr HO
        go_wp2
        clear m3 c0 c1 c2 hg lk
        refine wp_region_held_drew (S := fun wx => wx.heap[w.heap.size]? = some (.cells #[.slice a1 d.eng.procs.length k1, .slice a2 d.eng.insts.length k2, .int .i64 d.eng.now, .slice (some ⟨g, o, none⟩) d.claims.length k3] 53) ∧ wx.cell? ⟨g, o + k * 3, none⟩ = some (.int .i64 d.claims[k].inst) ∧ wx.cell? ⟨g, o + k * 3 + 1, none⟩ = some (.int .i64 d.claims[k].step) ∧ wx.cell? ⟨g, o + k * 3 + 2, none⟩ = some (.int .i64 d.claims[k].user)) (by kernel_rfl) HSd.out (fun hHeld => ?_)
        refine wpAnyH_take (i := 0) (v := .pointer (some ⟨O, 1, none⟩)) rfl (by kernel_rfl) (by kernel_rfl) (by kernel_rfl) (fun _ _ _ h => h) (Or.inl ⟨by kernel_rfl, by intro w hSw; (try dsimp only at hSw); go_simp⟩) (by assumption) ?_
        simp only [Act.put, List.setIfInBounds_toArray, List.set_cons_zero, List.set_cons_succ]
        refine wpAnyH_take (i := 2) (v := .pointer (some ⟨w.heap.size, 3, none⟩)) rfl (by kernel_rfl) (by kernel_rfl) (by kernel_rfl) (fun _ _ _ h => h) (Or.inl ⟨by kernel_rfl, by intro w hSw; (try dsimp only at hSw); go_simp⟩) (by assumption) ?_
        simp only [Act.put, List.setIfInBounds_toArray, List.set_cons_zero, List.set_cons_succ]
        refine wpAnyH_take (i := 3) (v := .slice (some ⟨g, o, none⟩) d.claims.length k3) rfl (by kernel_rfl) (by kernel_rfl) (by kernel_rfl) (fun _ _ _ h => h) (Or.inl ⟨by kernel_rfl, by intro w hSw; (try dsimp only at hSw); obtain ⟨h1, h3, h4, h5⟩ := hSw; have m0 := Ch.blk_cell h1 0; have m1 := Ch.blk_cell h1 1; have m2 := Ch.blk_cell h1 2; have m3 := Ch.blk_cell h1 3; clear h1 h3 h4 h5; go_simp⟩) (by assumption) ?_
        simp only [Act.put, List.setIfInBounds_toArray, List.set_cons_zero, List.set_cons_succ]
        refine wpAnyH_take (i := 4) (v := .int .i64 (k : Int)) rfl (by kernel_rfl) (by kernel_rfl) (by kernel_rfl) (fun _ _ _ h => h) (Or.inl ⟨by kernel_rfl, by intro w hSw; (try dsimp only at hSw); go_simp⟩) (by assumption) ?_
        simp only [Act.put, List.setIfInBounds_toArray, List.set_cons_zero, List.set_cons_succ]
        refine wpAnyH_take (i := 5) (v := .pointer (some ⟨g, o + k * 3, none⟩)) rfl (by kernel_rfl) (by kernel_rfl) (by kernel_rfl) (fun _ _ _ h => h) (Or.inl ⟨by kernel_rfl, by intro w hSw; (try dsimp only at hSw); go_simp⟩) (by assumption) ?_
        simp only [Act.put, List.setIfInBounds_toArray, List.set_cons_zero, List.set_cons_succ]
        refine wpAnyH_take (i := 6) (v := .agg #[.int .i64 d.claims[k].inst, .int .i64 d.claims[k].step, .int .i64 d.claims[k].user]) rfl (by kernel_rfl) (by kernel_rfl) (by kernel_rfl) (fun _ _ _ h => h) (Or.inl ⟨by kernel_rfl, by intro w hSw; (try dsimp only at hSw); obtain ⟨h1, h3, h4, h5⟩ := hSw; clear h1; go_simp⟩) (by assumption) ?_
        simp only [Act.put, List.setIfInBounds_toArray, List.set_cons_zero, List.set_cons_succ]
        refine wpAnyH_ready (rs := [1, 7]) (by kernel_rfl) (by simp) ?_
        refine (AllReadyH.cons rfl (fun K hK => ?_) (AllReadyH.cons rfl (fun K hK => ?_) AllReadyH.nil))
        · have x1 : wr.drew.cell? ⟨O, 1, none⟩ = some (.slice va xs.length vk) := blk_cell HKd.out 1
          have x3 := blk_lt HKd.out
          have x0 : wr.cell? ⟨O, 1, none⟩ = some (.slice va xs.length vk) := blk_cell HKd.out 1
          have x9 : O < wr.heap.size := by have := HOz.out; omega
          go_simp
          clear x1 x3 x0 x9
          refine hK.out _ _ HSd.out (fun hHeld => ?_)
          clear hK K
          try simp only [Act.put, List.setIfInBounds_toArray, List.set_cons_zero, List.set_cons_succ]
          refine wpAnyH_ready (rs := [7]) (by kernel_rfl) (by simp) ?_
          refine AllReadyH.cons rfl (fun K hK => ?_) AllReadyH.nil
          go_simp
          refine hK.out _ _ HSa.out (fun hHeld => ?_)
          clear hK K
          try simp only [Act.put, List.setIfInBounds_toArray, List.set_cons_zero, List.set_cons_succ]
          refine wpAnyH_ready (rs := [8]) (by kernel_rfl) (by simp) ?_
          refine AllReadyH.cons rfl (fun K hK => ?_) AllReadyH.nil
          refine Ap.step_any _ (by rfl) _ _ 51 (by rfl) (O + 1) 127 i0 (.agg #[.int .i64 0, .int .i64 0, .int .i64 0]) 3 24 Tryz.underlying51 hi0 hz0 hz1 hz2 rfl (by decide) _ _ _ (by rfl) HOa.out _ _ _ (by rfl) HROW.out (by unfold maxLen; omega) (by omega) (by have := HSZ.out; have := HSY.out; have := HOz.out; omega) _ rfl ?_
          intro a9 c9 w9 hown9 hg9 hat9
          have HO9 : Hid (COwn w9 (O + 1) (.slice a9 (xs.length + 1) c9) (xs ++ [d.claims[k]])) := hid (own_snoc hown9)
          have HB9 : Hid (Below w1.heap.size w1 w9) := hid (HBa.out.grown hg9 (by have := HSZ.out; have := HSY.out; omega) (fun b e => by have := (HOa.out.lt e).1; have := HO1.out; omega))
          have hks : ∀ b, b < O + 1 → b < wr.heap.size → w9.heap[b]? = (wr.drew.alloc (.cells #[.int .i64 d.claims[k].inst, .int .i64 d.claims[k].step, .int .i64 d.claims[k].user] 127)).heap[b]? := fun b hb hl => hg9.block b (by have := HSZ.out; have := HSY.out; omega) (fun e => by have := (HOa.out.lt e.symm).1; omega)
          have HK9 : Hid (w9.heap[w.heap.size]? = some (.cells #[.slice a1 d.eng.procs.length k1, .slice a2 d.eng.insts.length k2, .int .i64 d.eng.now, .slice (some ⟨g, o, none⟩) d.claims.length k3] 53)) := hid ((hks _ (by have := blk_lt HK1.out; have := HO1.out; omega) (by have := blk_lt HK1.out; omega)).trans HSa.out.1)
          have HR9 : Hid (w9.heap[O]? = some (.cells #[.int .i64 0, .slice va xs.length vk] 58)) := hid ((hks O (by omega) (by have := HOz.out; omega)).trans HKa.out)
          have HG9 : Hid (w9.cell? ⟨g, o + k * 3, none⟩ = some (.int .i64 d.claims[k].inst) ∧ w9.cell? ⟨g, o + k * 3 + 1, none⟩ = some (.int .i64 d.claims[k].step) ∧ w9.cell? ⟨g, o + k * 3 + 2, none⟩ = some (.int .i64 d.claims[k].user)) := hid (by obtain ⟨g7, o7, e7, _, y0, y1, y2⟩ := (HA.out.below (HB1.out.trans (HB9.out.mono HB1.out.size))).claims.at hlt; cases e7; exact ⟨y0, y1, y2⟩)
          have HZ9 : Hid (O + 1 ≤ w9.heap.size) := hid (by have := hg9.size; have := HOz.out; have := HSZ.out; have := HSY.out; omega)
          clear hown9 hg9 hat9 hks
          refine hK.out _ _ ⟨HK9.out, HG9.out⟩ (fun hHeld => ?_)
          clear hK K
          try simp only [Act.put, List.setIfInBounds_toArray, List.set_cons_zero, List.set_cons_succ]
          refine wpAnyH_take (i := 9) (v := .pointer (some ⟨O, 1, none⟩)) rfl (by kernel_rfl) (by kernel_rfl) (by kernel_rfl) (fun _ _ _ h => h) (Or.inl ⟨by kernel_rfl, by intro w hSw; (try dsimp only at hSw); go_simp⟩) (by assumption) ?_
          simp only [Act.put, List.setIfInBounds_toArray, List.set_cons_zero, List.set_cons_succ]
          have hks : ∀ b, b ≠ O → (w9.setCell ⟨O, 1, none⟩ (.slice a9 (xs.length + 1) c9)).heap[b]? = w9.heap[b]? := fun b hb => Below.heap_setCell _ _ _ _ (by dsimp only; omega)
          have HRs : Hid ((w9.setCell ⟨O, 1, none⟩ (.slice a9 (xs.length + 1) c9)).heap[O]? = some (.cells #[.int .i64 0, .slice a9 (xs.length + 1) c9] 58)) := hid (by have := Ch.blk_set (i := 1) HR9.out (.slice a9 (xs.length + 1) c9); simpa using this)
          have HKs : Hid ((w9.setCell ⟨O, 1, none⟩ (.slice a9 (xs.length + 1) c9)).heap[w.heap.size]? = some (.cells #[.slice a1 d.eng.procs.length k1, .slice a2 d.eng.insts.length k2, .int .i64 d.eng.now, .slice (some ⟨g, o, none⟩) d.claims.length k3] 53)) := hid ((hks _ (by have := blk_lt HK1.out; have := HO1.out; omega)).trans HK9.out)
          have HOs : Hid (COwn (w9.setCell ⟨O, 1, none⟩ (.slice a9 (xs.length + 1) c9)) (O + 1) (.slice a9 (xs.length + 1) c9) (xs ++ [d.claims[k]])) := hid (HO9.out.kept (fun b e => hks b (by have := (HO9.out.lt e).1; omega)))
          have HBs : Hid (Below w1.heap.size w1 (w9.setCell ⟨O, 1, none⟩ (.slice a9 (xs.length + 1) c9))) := hid (St.setB HB9.out HO1.out _)
          have HZs : Hid (O + 1 ≤ (w9.setCell ⟨O, 1, none⟩ (.slice a9 (xs.length + 1) c9)).heap.size) := hid (by have := HZ9.out; simpa [World.setCell] using this)
          have HGs : Hid ((w9.setCell ⟨O, 1, none⟩ (.slice a9 (xs.length + 1) c9)).cell? ⟨g, o + k * 3, none⟩ = some (.int .i64 d.claims[k].inst) ∧ (w9.setCell ⟨O, 1, none⟩ (.slice a9 (xs.length + 1) c9)).cell? ⟨g, o + k * 3 + 1, none⟩ = some (.int .i64 d.claims[k].step) ∧ (w9.setCell ⟨O, 1, none⟩ (.slice a9 (xs.length + 1) c9)).cell? ⟨g, o + k * 3 + 2, none⟩ = some (.int .i64 d.claims[k].user)) := hid (by obtain ⟨g7, o7, e7, _, y0, y1, y2⟩ := (HA.out.below (HB1.out.trans (HBs.out.mono HB1.out.size))).claims.at hlt; cases e7; exact ⟨y0, y1, y2⟩)
          have x1 : w9.cell? ⟨O, 1, none⟩ = some (.slice va xs.length vk) := blk_cell HR9.out 1
          have x2 := blk_free HR9.out 1
          have x3 := blk_lt HR9.out
          clear hks
          refine wpAnyH_ready (rs := [10]) (by kernel_rfl) (by simp) ?_
          refine AllReadyH.cons rfl (fun K hK => ?_) AllReadyH.nil
          go_simp
          refine hK.out _ _ ⟨HKs.out, HGs.out⟩ (fun hHeld => ?_)
          clear hK K
          try simp only [Act.put, List.setIfInBounds_toArray, List.set_cons_zero, List.set_cons_succ]
          refine wpAnyH_done (by kernel_rfl) ?_ _
          clear hHeld x1 x2 x3
          try simp only [List.getElem_toArray, List.getElem_cons_succ, List.getElem_cons_zero, Act.put, List.setIfInBounds_toArray, List.set_cons_zero, List.set_cons_succ]
          go_wp2
          exact ⟨⟨k + 1, _, by simp, by omega, HRs, hid (by rw [HT.out]; exact HOs.out), HBs, HZs⟩, by simp [intOf]; omega⟩
        · go_simp
          refine hK.out _ _ HSa.out (fun hHeld => ?_)
          clear hK K
          try simp only [Act.put, List.setIfInBounds_toArray, List.set_cons_zero, List.set_cons_succ]
          refine wpAnyH_ready (rs := [1]) (by kernel_rfl) (by simp) ?_
          refine AllReadyH.cons rfl (fun K hK => ?_) AllReadyH.nil
          have x1 : (wr.drew.alloc (.cells #[.int .i64 d.claims[k].inst, .int .i64 d.claims[k].step, .int .i64 d.claims[k].user] 127)).cell? ⟨O, 1, none⟩ = some (.slice va xs.length vk) := blk_cell HKa.out 1
          have x3 := blk_lt HKa.out
          have x0 : wr.cell? ⟨O, 1, none⟩ = some (.slice va xs.length vk) := blk_cell HKd.out 1
          have x9 : O < wr.heap.size := by have := HOz.out; omega
          go_simp
          clear x1 x3 x0 x9
          refine hK.out _ _ HSa.out (fun hHeld => ?_)
          clear hK K
          try simp only [Act.put, List.setIfInBounds_toArray, List.set_cons_zero, List.set_cons_succ]
          refine wpAnyH_ready (rs := [8]) (by kernel_rfl) (by simp) ?_
          refine AllReadyH.cons rfl (fun K hK => ?_) AllReadyH.nil
          refine Ap.step_any _ (by rfl) _ _ 51 (by rfl) (O + 1) 127 i0 (.agg #[.int .i64 0, .int .i64 0, .int .i64 0]) 3 24 Tryz.underlying51 hi0 hz0 hz1 hz2 rfl (by decide) _ _ _ (by rfl) HOa.out _ _ _ (by rfl) HROW.out (by unfold maxLen; omega) (by omega) (by have := HSZ.out; have := HSY.out; have := HOz.out; omega) _ rfl ?_
          intro a9 c9 w9 hown9 hg9 hat9
          have HO9 : Hid (COwn w9 (O + 1) (.slice a9 (xs.length + 1) c9) (xs ++ [d.claims[k]])) := hid (own_snoc hown9)
          have HB9 : Hid (Below w1.heap.size w1 w9) := hid (HBa.out.grown hg9 (by have := HSZ.out; have := HSY.out; omega) (fun b e => by have := (HOa.out.lt e).1; have := HO1.out; omega))
          have hks : ∀ b, b < O + 1 → b < wr.heap.size → w9.heap[b]? = (wr.drew.alloc (.cells #[.int .i64 d.claims[k].inst, .int .i64 d.claims[k].step, .int .i64 d.claims[k].user] 127)).heap[b]? := fun b hb hl => hg9.block b (by have := HSZ.out; have := HSY.out; omega) (fun e => by have := (HOa.out.lt e.symm).1; omega)
          have HK9 : Hid (w9.heap[w.heap.size]? = some (.cells #[.slice a1 d.eng.procs.length k1, .slice a2 d.eng.insts.length k2, .int .i64 d.eng.now, .slice (some ⟨g, o, none⟩) d.claims.length k3] 53)) := hid ((hks _ (by have := blk_lt HK1.out; have := HO1.out; omega) (by have := blk_lt HK1.out; omega)).trans HSa.out.1)
          have HR9 : Hid (w9.heap[O]? = some (.cells #[.int .i64 0, .slice va xs.length vk] 58)) := hid ((hks O (by omega) (by have := HOz.out; omega)).trans HKa.out)
          have HG9 : Hid (w9.cell? ⟨g, o + k * 3, none⟩ = some (.int .i64 d.claims[k].inst) ∧ w9.cell? ⟨g, o + k * 3 + 1, none⟩ = some (.int .i64 d.claims[k].step) ∧ w9.cell? ⟨g, o + k * 3 + 2, none⟩ = some (.int .i64 d.claims[k].user)) := hid (by obtain ⟨g7, o7, e7, _, y0, y1, y2⟩ := (HA.out.below (HB1.out.trans (HB9.out.mono HB1.out.size))).claims.at hlt; cases e7; exact ⟨y0, y1, y2⟩)
          have HZ9 : Hid (O + 1 ≤ w9.heap.size) := hid (by have := hg9.size; have := HOz.out; have := HSZ.out; have := HSY.out; omega)
          clear hown9 hg9 hat9 hks
          refine hK.out _ _ ⟨HK9.out, HG9.out⟩ (fun hHeld => ?_)
          clear hK K
          try simp only [Act.put, List.setIfInBounds_toArray, List.set_cons_zero, List.set_cons_succ]
          refine wpAnyH_take (i := 9) (v := .pointer (some ⟨O, 1, none⟩)) rfl (by kernel_rfl) (by kernel_rfl) (by kernel_rfl) (fun _ _ _ h => h) (Or.inl ⟨by kernel_rfl, by intro w hSw; (try dsimp only at hSw); go_simp⟩) (by assumption) ?_
          simp only [Act.put, List.setIfInBounds_toArray, List.set_cons_zero, List.set_cons_succ]
          have hks : ∀ b, b ≠ O → (w9.setCell ⟨O, 1, none⟩ (.slice a9 (xs.length + 1) c9)).heap[b]? = w9.heap[b]? := fun b hb => Below.heap_setCell _ _ _ _ (by dsimp only; omega)
          have HRs : Hid ((w9.setCell ⟨O, 1, none⟩ (.slice a9 (xs.length + 1) c9)).heap[O]? = some (.cells #[.int .i64 0, .slice a9 (xs.length + 1) c9] 58)) := hid (by have := Ch.blk_set (i := 1) HR9.out (.slice a9 (xs.length + 1) c9); simpa using this)
          have HKs : Hid ((w9.setCell ⟨O, 1, none⟩ (.slice a9 (xs.length + 1) c9)).heap[w.heap.size]? = some (.cells #[.slice a1 d.eng.procs.length k1, .slice a2 d.eng.insts.length k2, .int .i64 d.eng.now, .slice (some ⟨g, o, none⟩) d.claims.length k3] 53)) := hid ((hks _ (by have := blk_lt HK1.out; have := HO1.out; omega)).trans HK9.out)
          have HOs : Hid (COwn (w9.setCell ⟨O, 1, none⟩ (.slice a9 (xs.length + 1) c9)) (O + 1) (.slice a9 (xs.length + 1) c9) (xs ++ [d.claims[k]])) := hid (HO9.out.kept (fun b e => hks b (by have := (HO9.out.lt e).1; omega)))
          have HBs : Hid (Below w1.heap.size w1 (w9.setCell ⟨O, 1, none⟩ (.slice a9 (xs.length + 1) c9))) := hid (St.setB HB9.out HO1.out _)
          have HZs : Hid (O + 1 ≤ (w9.setCell ⟨O, 1, none⟩ (.slice a9 (xs.length + 1) c9)).heap.size) := hid (by have := HZ9.out; simpa [World.setCell] using this)
          have HGs : Hid ((w9.setCell ⟨O, 1, none⟩ (.slice a9 (xs.length + 1) c9)).cell? ⟨g, o + k * 3, none⟩ = some (.int .i64 d.claims[k].inst) ∧ (w9.setCell ⟨O, 1, none⟩ (.slice a9 (xs.length + 1) c9)).cell? ⟨g, o + k * 3 + 1, none⟩ = some (.int .i64 d.claims[k].step) ∧ (w9.setCell ⟨O, 1, none⟩ (.slice a9 (xs.length + 1) c9)).cell? ⟨g, o + k * 3 + 2, none⟩ = some (.int .i64 d.claims[k].user)) := hid (by obtain ⟨g7, o7, e7, _, y0, y1, y2⟩ := (HA.out.below (HB1.out.trans (HBs.out.mono HB1.out.size))).claims.at hlt; cases e7; exact ⟨y0, y1, y2⟩)
          have x1 : w9.cell? ⟨O, 1, none⟩ = some (.slice va xs.length vk) := blk_cell HR9.out 1
          have x2 := blk_free HR9.out 1
          have x3 := blk_lt HR9.out
          clear hks
          refine wpAnyH_ready (rs := [10]) (by kernel_rfl) (by simp) ?_
          refine AllReadyH.cons rfl (fun K hK => ?_) AllReadyH.nil
          go_simp
          refine hK.out _ _ ⟨HKs.out, HGs.out⟩ (fun hHeld => ?_)
          clear hK K
          try simp only [Act.put, List.setIfInBounds_toArray, List.set_cons_zero, List.set_cons_succ]
          refine wpAnyH_done (by kernel_rfl) ?_ _
          clear hHeld x1 x2 x3
          try simp only [List.getElem_toArray, List.getElem_cons_succ, List.getElem_cons_zero, Act.put, List.setIfInBounds_toArray, List.set_cons_zero, List.set_cons_succ]
          go_wp2
          exact ⟨⟨k + 1, _, by simp, by omega, HRs, hid (by rw [HT.out]; exact HOs.out), HBs, HZs⟩, by simp [intOf]; omega⟩
    · obtain rfl : k = d.claims.length := by omega
      rw [List.take_of_length_le (Nat.le_refl _)] at HO HKO
      have HRr := hid ((HBr.out.block _ (blk_lt HR1.out)).trans HR1.out)
      obtain ⟨n0, n1, nf, nl⟩ := two HRr.out
      have f0 := nf 0
      have f1 := nf 1
      clear nf
      have u0 : wr.cell? ⟨O, 0, none⟩ = some (.int .i64 0) := blk_cell HKO.out 0
      have u1 := blk_cell HKO.out 1
      replace u1 : wr.cell? ⟨O, 1, none⟩ = some (.slice va (d.claims.filter (fun c => c.user == u)).length vk) := u1
      have u2 := blk_lt HKO.out
      go_wp2
      refine bodyPost_ret (v := .agg #[.int .i64 0, .slice va (d.claims.filter (fun c => c.user == u)).length vk]) (by simp [results, Tryz.results36, go_sem, n0, n1]) rfl ⟨⟨_, by rw [HN.out.1], by rw [HN.out.2]; exact (HO.out.kept (fun b e => by have := (HO.out.lt e).1; have := blk_lt HR1.out; have := HO1.out; repeat rw [Below.heap_setCell _ _ _ _ (by dsimp only; omega)])).mono (by have := HB1.out.size; have := HO1.out; omega)⟩, Ch.below2 HBw.out (by omega) _ _⟩
end Of
end Go.Proofs.YtkelmhkakdeghaaGreatDoor
