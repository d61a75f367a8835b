/- The specification's ClaimTask. No condition. -/
import Derived.Test.YtccklgopcjilcaaGreatDoorJCT45
namespace Go.Proofs.YtccklgopcjilcaaGreatDoor
open Go.RowKit Go.Deep
set_option linter.unusedVariables false
set_option linter.unusedSimpArgs false
namespace Fr
open Go.ChangeMaps (setBlock)
open En (EngD)
open Cl (ClD)
open Eg (engC)
open Ex (hid)
open Pf (Rul)
open Dk (DeskD deskC askC heldC isU hasI openT ents of_ask of_held of_d of_claims of_claim of_one CJ CJ_eq oneC claimC claimsC TPost rg_ask look)
open Ds (Rise rise_of without ents_without insertC insert_perm insert_rise ents_snoc same_of LPost)
open Of (who who_or COwn)
open Eo (EOwn EOwnC PRow IRow)
open Ch (blk_cell blk_lt blk_free blk_set new_blk new_at)
open Dk (aheadC)
theorem raw_empty {w : World} {B g : Nat} (hB : B ≤ g) (h : w.heap[g]? = some (.cells #[] 143)) : w.ownsRow B 143 3 (.slice (some ⟨g, 0, none⟩) 0 0) 0 [] :=
  ⟨rfl, .inr ⟨g, 0, #[], rfl, hB, h, Nat.le_refl _, Nat.zero_le _, rfl, rfl⟩⟩
theorem raw_kept {w w' : World} {B n : Nat} {v : Value} {vs : List Value} (h : w.ownsRow B 143 3 v n vs) (hb : ∀ b, v.ownBlock = some b → w'.heap[b]? = w.heap[b]?) : w'.ownsRow B 143 3 v n vs := by
  obtain ⟨hl, h | ⟨g, cap, cur, rfl, hbg, hg, hle, hm, hs, ht⟩⟩ := h
  · exact ⟨hl, .inl h⟩
  · exact ⟨hl, .inr ⟨g, cap, cur, rfl, hbg, (hb g rfl).trans hg, hle, hm, hs, ht⟩⟩
theorem raw_claims {w : World} {B n : Nat} {v : Value} {vs : List Value} {xs : List ClD} (h : w.ownsRow B 143 3 v n vs) (hn : n = xs.length) (hv : vs = Of.cvals xs) : COwn w B v xs := by
  unfold Of.COwn
  rw [← hn, ← hv]
  exact h
theorem rowx_of {w : World} {y : Nat} {x : ClD} (h : w.heap[y]? = some (.cells #[.int .i64 x.inst, .int .i64 x.step, .int .i64 x.user] 143)) : Ap.Row w 3 (.slice (some ⟨y, 0, none⟩) 1 1) 1 (Of.cv x) := by
  refine ⟨_, _, rfl, rfl, (by simp [Of.cv, Value.oneCell']), .inr ⟨_, rfl, fun j u hu => ?_⟩⟩
  match j with
  | 0 => simp [Of.cv] at hu; subst hu; exact blk_cell h 0
  | 1 => simp [Of.cv] at hu; subst hu; exact blk_cell h 1
  | 2 => simp [Of.cv] at hu; subst hu; exact blk_cell h 2
  | n + 3 => simp [Of.cv] at hu
theorem row_first {w : World} {B k c : Nat} {a : Option Addr} {cs : List ClD} (h : Cl.At w B (.slice a cs.length c) cs) (hk : k ≤ cs.length) : Ap.Row w 3 (.slice a k c) k (Of.cvals (cs.take k)) := by
  have := row_all (cut_first h k hk).2
  rw [List.length_take, Nat.min_eq_left hk] at this
  exact this
theorem row_rest {w : World} {B k c : Nat} {a a' : Option Addr} {c' : Nat} {cs : List ClD} (hr : ∀ w' : World, Sem.run Tryz.prog (Instr.slice 28 (.slice a cs.length c) (some (.int .i64 (k : Int))) none none) w' = .ok (.slice a' (cs.length - k) c') w') (h : Cl.At w B (.slice a cs.length c) cs) (hk : k ≤ cs.length) : Ap.Row w 3 (.slice a' (cs.length - k) c') (cs.length - k) (Of.cvals (cs.drop k)) := by
  obtain ⟨a2, c2, h1, h2⟩ := cut_rest h k hk
  have e := (hr w).symm.trans (h1 w)
  cases e
  have := row_all h2
  rw [List.length_drop] at this
  exact this
set_option maxRecDepth 100000 in
set_option maxHeartbeats 32000000 in
theorem specClaim (B : Nat) (d : DeskD) (u i s : Int) (vp vi vc : Value) (w : World) (hs : Dk.Small 1048576 d) (ha : Dk.At w B vp vi vc d) :
    Calls Tryz.prog 36 #[.agg #[vp, vi, .int .i64 d.eng.now, vc], .int .i64 u, .int .i64 i, .int .i64 s] w (DPost (claimTC d u i s) (claimD d u i s) w) := by
  have HAW := hid ha
  obtain ⟨⟨a1, k1, rfl⟩, ⟨a2, k2, rfl⟩, a3, k3, rfl⟩ := ha.slices
  obtain ⟨w0, e0⟩ : ∃ w0, w0 = (w.alloc (.cells #[.slice a1 d.eng.procs.length k1, .slice a2 d.eng.insts.length k2, .int .i64 d.eng.now, .slice a3 d.claims.length k3] 30)).alloc (.cells #[.int .i64 0, .int .i64 0, .slice none 0 0, .slice none 0 0, .int .i64 0, .slice none 0 0] 73) := ⟨_, rfl⟩
  have hb0 : Below w.heap.size w w0 := by rw [e0]; exact ((Below.refl _ w).alloc (Nat.le_refl _) _).alloc (by simp) _
  have HK0 : Hid (w0.heap[w.heap.size]? = some (.cells #[.slice a1 d.eng.procs.length k1, .slice a2 d.eng.insts.length k2, .int .i64 d.eng.now, .slice a3 d.claims.length k3] 30)) := hid (by rw [e0, Below.heap_alloc _ _ _ (by simp), new_blk])
  have HR0 : Hid (w0.heap[w.heap.size + 1]? = some (.cells #[.int .i64 0, .int .i64 0, .slice none 0 0, .slice none 0 0, .int .i64 0, .slice none 0 0] 73)) := hid (by rw [e0]; exact new_at (by simp) _)
  have HC := hid (specAsked B w.heap.size d u i s _ _ _ w0 hs (ha.below hb0) HK0.out)
  have HB0 := hid hb0
  have HS := hid hs
  clear ha hb0 hs
  go_enter Tryz.func36, Tryz.ntmps36
  go_wp2_with fail
  rw [← e0]
  clear e0
  refine HC.out.mono ?_
  rintro z w1 ⟨rfl, hb1⟩
  have HB1 := hid (HB0.out.trans (hb1.mono HB0.out.size))
  have HK1 := hid ((hb1.block _ (blk_lt HK0.out)).trans HK0.out)
  have HR1 := hid ((hb1.block _ (blk_lt HR0.out)).trans HR0.out)
  have HA1 := hid (HAW.out.below HB1.out)
  clear hb1 HK0 HR0 HC HB0
  by_cases hz : askC d u i s = 0
  case neg =>
    have HX := hid (ct_ask hz)
    have HY := hid (claim_bad HX.out hz)
    have b0 : (askC d u i s != 0) = true := bne_iff_ne.2 hz
    generalize askC d u i s = pc at *
    clear hz HK1 HA1 HS HAW
    have HD := hid (fun w' => specBad pc w')
    go_wp2_with fail
    refine (HD.out _).mono ?_
    rintro z w2 ⟨rfl, hb2⟩
    have HR2 := hid ((hb2.block _ (blk_lt HR1.out)).trans HR1.out)
    have HB2 := hid (HB1.out.trans (hb2.mono HB1.out.size))
    clear hb2 HD HR1 HB1
    obtain ⟨n0, n1, n2, n3, n4, n5, nf, nl⟩ := six HR2.out
    have f0 := nf 0
    have f1 := nf 1
    have f2 := nf 2
    have f3 := nf 3
    have f4 := nf 4
    have f5 := nf 5
    clear nf
    obtain ⟨w9, e9⟩ : ∃ w9, w9 = ((((((w2.setCell ⟨w.heap.size + 1, 0, none⟩ (.int .i64 pc)).setCell ⟨w.heap.size + 1, 1, none⟩ (.int .i64 0)).setCell ⟨w.heap.size + 1, 2, none⟩ (.slice none 0 0)).setCell ⟨w.heap.size + 1, 3, none⟩ (.slice none 0 0)).setCell ⟨w.heap.size + 1, 4, none⟩ (.int .i64 0)).setCell ⟨w.heap.size + 1, 5, none⟩ (.slice none 0 0)) := ⟨_, rfl⟩
    have K9 : w9.heap[w.heap.size + 1]? = some (.cells #[.int .i64 pc, .int .i64 0, .slice none 0 0, .slice none 0 0, .int .i64 0, .slice none 0 0] 73) := by rw [e9]; have := (blk_set (i := 5) (blk_set (i := 4) (blk_set (i := 3) (blk_set (i := 2) (blk_set (i := 1) (blk_set (i := 0) HR2.out (.int .i64 pc)) (.int .i64 0)) (.slice none 0 0)) (.slice none 0 0)) (.int .i64 0)) (.slice none 0 0)); simpa using this
    have HB9 : Hid (Below w.heap.size w w9) := hid (by rw [e9]; exact below6 HB2.out (by omega) _ _ _ _ _ _)
    have HO9 := hid (fun b (hb : b ≠ w.heap.size + 1) => show w9.heap[b]? = w2.heap[b]? by rw [e9]; repeat rw [Below.heap_setCell _ _ _ _ (by dsimp only; omega)])
    have HZ9 : Hid (w9.heap.size = w2.heap.size) := hid (by rw [e9]; simp [World.setCell])
    go_wp2
    rw [← e9]
    clear e9
    obtain ⟨r0, r1, r2, r3, r4, r5, _, _⟩ := six K9
    refine bodyPost_ret (v := .agg #[.int .i64 pc, .int .i64 0, .slice none 0 0, .slice none 0 0, .int .i64 0, .slice none 0 0]) (by simp [results, Tryz.results36, go_sem, r0, r1, r2, r3, r4, r5]) rfl ?_
    exact DPost.bad HX.out HY.out HB9.out
  have HZ := hid hz
  have hlen60 := (of_d (of_ask hz).1).2.1
  rw [hz]
  have b0 : ((0 : Int) != 0) = false := rfl
  clear hz
  have HW := hid (Of.specWho B w.heap.size d _ _ _ i s w1 HS.out HA1.out HK1.out)
  go_wp2_with fail
  refine HW.out.mono ?_
  rintro z w2 ⟨rfl, hw⟩
  replace hw := hw.symm
  subst hw
  clear HW
  by_cases hu : who d.claims i s = 0
  case neg =>
    have HX := hid (ct_taken HZ.out hu)
    have HY := hid (claim_bad HX.out (by decide))
    have b1 : (who d.claims i s != 0) = true := bne_iff_ne.2 hu
    generalize who d.claims i s = x at *
    clear hu HK1 HA1 HS HAW
    have HD := hid (fun w' => specBad 6 w')
    go_wp2_with fail
    refine (HD.out _).mono ?_
    rintro z w2 ⟨rfl, hb2⟩
    have HR2 := hid ((hb2.block _ (blk_lt HR1.out)).trans HR1.out)
    have HB2 := hid (HB1.out.trans (hb2.mono HB1.out.size))
    clear hb2 HD HR1 HB1
    obtain ⟨n0, n1, n2, n3, n4, n5, nf, nl⟩ := six HR2.out
    have f0 := nf 0
    have f1 := nf 1
    have f2 := nf 2
    have f3 := nf 3
    have f4 := nf 4
    have f5 := nf 5
    clear nf
    obtain ⟨w9, e9⟩ : ∃ w9, w9 = ((((((w2.setCell ⟨w.heap.size + 1, 0, none⟩ (.int .i64 6)).setCell ⟨w.heap.size + 1, 1, none⟩ (.int .i64 0)).setCell ⟨w.heap.size + 1, 2, none⟩ (.slice none 0 0)).setCell ⟨w.heap.size + 1, 3, none⟩ (.slice none 0 0)).setCell ⟨w.heap.size + 1, 4, none⟩ (.int .i64 0)).setCell ⟨w.heap.size + 1, 5, none⟩ (.slice none 0 0)) := ⟨_, rfl⟩
    have K9 : w9.heap[w.heap.size + 1]? = some (.cells #[.int .i64 6, .int .i64 0, .slice none 0 0, .slice none 0 0, .int .i64 0, .slice none 0 0] 73) := by rw [e9]; have := (blk_set (i := 5) (blk_set (i := 4) (blk_set (i := 3) (blk_set (i := 2) (blk_set (i := 1) (blk_set (i := 0) HR2.out (.int .i64 6)) (.int .i64 0)) (.slice none 0 0)) (.slice none 0 0)) (.int .i64 0)) (.slice none 0 0)); simpa using this
    have HB9 : Hid (Below w.heap.size w w9) := hid (by rw [e9]; exact below6 HB2.out (by omega) _ _ _ _ _ _)
    have HO9 := hid (fun b (hb : b ≠ w.heap.size + 1) => show w9.heap[b]? = w2.heap[b]? by rw [e9]; repeat rw [Below.heap_setCell _ _ _ _ (by dsimp only; omega)])
    have HZ9 : Hid (w9.heap.size = w2.heap.size) := hid (by rw [e9]; simp [World.setCell])
    go_wp2
    rw [← e9]
    clear e9
    obtain ⟨r0, r1, r2, r3, r4, r5, _, _⟩ := six K9
    refine bodyPost_ret (v := .agg #[.int .i64 6, .int .i64 0, .slice none 0 0, .slice none 0 0, .int .i64 0, .slice none 0 0]) (by simp [results, Tryz.results36, go_sem, r0, r1, r2, r3, r4, r5]) rfl ?_
    exact DPost.bad HX.out HY.out HB9.out
  have HXM := hid (fun hl => ct_many HZ.out hu hl)
  have HXO := hid (fun hl => ct_ok HZ.out hu hl)
  have b1 : (who d.claims i s != 0) = false := by rw [hu]; rfl
  generalize who d.claims i s = x at *
  clear hu
  by_cases hl : d.claims.length = 60
  case pos =>
    have HX := hid (HXM.out hl)
    have HY := hid (claim_bad HX.out (by decide))
    have q60 : (60 : Int) ≤ (d.claims.length : Int) := by omega
    have m3 := blk_cell HK1.out 3
    have ml := blk_lt HK1.out
    clear hl HA1 HS HAW hlen60
    have HD := hid (fun w' => specBad 2 w')
    go_wp2_with fail
    refine (HD.out _).mono ?_
    rintro z w2 ⟨rfl, hb2⟩
    have HR2 := hid ((hb2.block _ (blk_lt HR1.out)).trans HR1.out)
    have HB2 := hid (HB1.out.trans (hb2.mono HB1.out.size))
    clear hb2 HD HR1 HB1
    obtain ⟨n0, n1, n2, n3, n4, n5, nf, nl⟩ := six HR2.out
    have f0 := nf 0
    have f1 := nf 1
    have f2 := nf 2
    have f3 := nf 3
    have f4 := nf 4
    have f5 := nf 5
    clear nf
    obtain ⟨w9, e9⟩ : ∃ w9, w9 = ((((((w2.setCell ⟨w.heap.size + 1, 0, none⟩ (.int .i64 2)).setCell ⟨w.heap.size + 1, 1, none⟩ (.int .i64 0)).setCell ⟨w.heap.size + 1, 2, none⟩ (.slice none 0 0)).setCell ⟨w.heap.size + 1, 3, none⟩ (.slice none 0 0)).setCell ⟨w.heap.size + 1, 4, none⟩ (.int .i64 0)).setCell ⟨w.heap.size + 1, 5, none⟩ (.slice none 0 0)) := ⟨_, rfl⟩
    have K9 : w9.heap[w.heap.size + 1]? = some (.cells #[.int .i64 2, .int .i64 0, .slice none 0 0, .slice none 0 0, .int .i64 0, .slice none 0 0] 73) := by rw [e9]; have := (blk_set (i := 5) (blk_set (i := 4) (blk_set (i := 3) (blk_set (i := 2) (blk_set (i := 1) (blk_set (i := 0) HR2.out (.int .i64 2)) (.int .i64 0)) (.slice none 0 0)) (.slice none 0 0)) (.int .i64 0)) (.slice none 0 0)); simpa using this
    have HB9 : Hid (Below w.heap.size w w9) := hid (by rw [e9]; exact below6 HB2.out (by omega) _ _ _ _ _ _)
    have HO9 := hid (fun b (hb : b ≠ w.heap.size + 1) => show w9.heap[b]? = w2.heap[b]? by rw [e9]; repeat rw [Below.heap_setCell _ _ _ _ (by dsimp only; omega)])
    have HZ9 : Hid (w9.heap.size = w2.heap.size) := hid (by rw [e9]; simp [World.setCell])
    go_wp2
    rw [← e9]
    clear e9
    obtain ⟨r0, r1, r2, r3, r4, r5, _, _⟩ := six K9
    refine bodyPost_ret (v := .agg #[.int .i64 2, .int .i64 0, .slice none 0 0, .slice none 0 0, .int .i64 0, .slice none 0 0]) (by simp [results, Tryz.results36, go_sem, r0, r1, r2, r3, r4, r5]) rfl ?_
    exact DPost.bad HX.out HY.out HB9.out
  have HXC := hid (HXO.out hl)
  have HXD := hid (claim_ok HXC.out)
  have q60 : ¬ (60 : Int) ≤ (d.claims.length : Int) := by omega
  clear hl HXM HXO
  have HCP := hid (specCopy B d _ _ _ w1 HS.out HA1.out)
  have m0 := blk_cell HK1.out 0
  have m1 := blk_cell HK1.out 1
  have m2 := blk_cell HK1.out 2
  have m3 := blk_cell HK1.out 3
  have ml := blk_lt HK1.out
  go_wp2_with fail
  refine HCP.out.mono ?_
  rintro z w2 ⟨⟨up, ui, ac, kc, rfl, hu⟩, hb2⟩
  obtain ⟨p1, q1, hp⟩ := hu.at'.procs.slice
  obtain ⟨p2, q2, hp2⟩ := hu.at'.insts.slice
  subst hp hp2
  have HB2 := hid (HB1.out.trans (hb2.mono HB1.out.size))
  have HK2 := hid ((hb2.block _ (blk_lt HK1.out)).trans HK1.out)
  have HR2 := hid ((hb2.block _ (blk_lt HR1.out)).trans HR1.out)
  have HU2 := hid (Eo.EOwnC.of hu)
  have HZ12 := hid hb2.size
  have HLO : Hid (w.heap.size + 1 < w1.heap.size) := hid (blk_lt HR1.out)
  clear hu hb2 HCP HK1 HR1 HB1 HA1 m0 m1 m2 m3 ml
  clear q60 b0 b1
  obtain ⟨i0, hi0, hz0, hz1, hz2⟩ := Ex.info_parts Cl.infoOne
  obtain ⟨w3, e3⟩ : ∃ w3, w3 = (w2.alloc (.cells #[.slice p1 d.eng.procs.length q1, .slice p2 d.eng.insts.length q2, .int .i64 d.eng.now, .slice ac d.claims.length kc] 30)).alloc (.cells #[.int .i64 i, .int .i64 s, .int .i64 u] 143) := ⟨_, rfl⟩
  have hb3 : Below w2.heap.size w2 w3 := by rw [e3]; exact ((Below.refl _ w2).alloc (Nat.le_refl _) _).alloc (by simp) _
  have HOw3 : Hid (w3.heap[w2.heap.size]? = some (.cells #[.slice p1 d.eng.procs.length q1, .slice p2 d.eng.insts.length q2, .int .i64 d.eng.now, .slice ac d.claims.length kc] 30)) := hid (by rw [e3, Below.heap_alloc _ _ _ (by simp), new_blk])
  have HXw3 : Hid (w3.heap[w2.heap.size + 1]? = some (.cells #[.int .i64 i, .int .i64 s, .int .i64 u] 143)) := hid (by rw [e3]; exact new_at (by simp) _)
  have HKw3 : Hid (w3.heap[w.heap.size]? = some (.cells #[.slice a1 d.eng.procs.length k1, .slice a2 d.eng.insts.length k2, .int .i64 d.eng.now, .slice a3 d.claims.length k3] 30)) := hid ((hb3.block _ (blk_lt HK2.out)).trans HK2.out)
  have HRw3 : Hid (w3.heap[w.heap.size + 1]? = some (.cells #[.int .i64 0, .int .i64 0, .slice none 0 0, .slice none 0 0, .int .i64 0, .slice none 0 0] 73)) := hid ((hb3.block _ (blk_lt HR2.out)).trans HR2.out)
  have HBw3 := hid (HB2.out.trans (hb3.mono HB2.out.size))
  have HUw3 := hid (HU2.out.below hb3)
  have HRO : Hid (w.heap.size + 1 < w2.heap.size) := hid (blk_lt HR2.out)
  clear hb3 HK2 HR2 HB2 HU2
  go_wp2_with fail
  rw [← e3]
  clear e3
  go_loopw [12] (fun x wr => ∃ k : Nat, x = .int .i64 k ∧ k ≤ d.claims.length ∧ Hid (∀ j (h : j < d.claims.length), j < k → Dk.aheadC d.claims[j] ⟨i, s, u⟩ = true) ∧ Hid (Below w3.heap.size w3 wr)) (fun x _ => d.claims.length - (intOf x).toNat)
  case atStart => exact ⟨0, rfl, Nat.zero_le _, hid (fun j _ h => by omega), hid (Below.refl _ _)⟩
  case round =>
    obtain ⟨k, rfl, hk, HAH, HBR⟩ := hrel
    have HKr : Hid (wr.heap[w.heap.size]? = some (.cells #[.slice a1 d.eng.procs.length k1, .slice a2 d.eng.insts.length k2, .int .i64 d.eng.now, .slice a3 d.claims.length k3] 30)) := hid ((HBR.out.block _ (blk_lt HKw3.out)).trans HKw3.out)
    have HXr : Hid (wr.heap[w2.heap.size + 1]? = some (.cells #[.int .i64 i, .int .i64 s, .int .i64 u] 143)) := hid ((HBR.out.block _ (blk_lt HXw3.out)).trans HXw3.out)
    have HOr : Hid (wr.heap[w2.heap.size]? = some (.cells #[.slice p1 d.eng.procs.length q1, .slice p2 d.eng.insts.length q2, .int .i64 d.eng.now, .slice ac d.claims.length kc] 30)) := hid ((HBR.out.block _ (blk_lt HOw3.out)).trans HOw3.out)
    have HRr : Hid (wr.heap[w.heap.size + 1]? = some (.cells #[.int .i64 0, .int .i64 0, .slice none 0 0, .slice none 0 0, .int .i64 0, .slice none 0 0] 73)) := hid ((HBR.out.block _ (blk_lt HRw3.out)).trans HRw3.out)
    have HBr := hid (HBw3.out.trans (HBR.out.mono HBw3.out.size))
    have HUr := hid (HUw3.out.below HBR.out)
    have hmax : d.claims.length ≤ 60 := hlen60
    by_cases hlt : k < d.claims.length
    case' pos =>
      obtain ⟨g, o, eg, hg, c0, c1, c2⟩ := (HAW.out.below HBr.out).claims.at hlt
      have t1 : (k : Int) < (d.claims.length : Int) := by omega
      have HSd : Hid (wr.drew.heap[w.heap.size]? = some (.cells #[.slice a1 d.eng.procs.length k1, .slice a2 d.eng.insts.length k2, .int .i64 d.eng.now, .slice a3 d.claims.length k3] 30) ∧ wr.drew.heap[w2.heap.size + 1]? = some (.cells #[.int .i64 i, .int .i64 s, .int .i64 u] 143) ∧ wr.drew.cell? ⟨g, o + k * 3, none⟩ = some (.int .i64 d.claims[k].inst) ∧ wr.drew.cell? ⟨g, o + k * 3 + 1, none⟩ = some (.int .i64 d.claims[k].step) ∧ wr.drew.cell? ⟨g, o + k * 3 + 2, none⟩ = some (.int .i64 d.claims[k].user)) := hid ⟨HKr.out, HXr.out, c0, c1, c2⟩
      have EG := hid eg
      rw [eg] at HSd
      have HGL := hid hg
      clear c0 c1 c2 hg eg
      cases hah : Dk.aheadC d.claims[k] ⟨i, s, u⟩
      case' true =>
        go_wp2
        refine wp_region_held_drew (S := fun wx => wx.heap[w.heap.size]? = some (.cells #[.slice a1 d.eng.procs.length k1, .slice a2 d.eng.insts.length k2, .int .i64 d.eng.now, .slice (some ⟨g, o, none⟩) d.claims.length k3] 30) ∧ wx.heap[w2.heap.size + 1]? = some (.cells #[.int .i64 i, .int .i64 s, .int .i64 u] 143) ∧ wx.cell? ⟨g, o + k * 3, none⟩ = some (.int .i64 d.claims[k].inst) ∧ wx.cell? ⟨g, o + k * 3 + 1, none⟩ = some (.int .i64 d.claims[k].step) ∧ wx.cell? ⟨g, o + k * 3 + 2, none⟩ = some (.int .i64 d.claims[k].user)) (by kernel_rfl) HSd.out (fun hHeld => ?_)
        refine wpAnyH_take (i := 0) (v := .int .i64 (k : Int)) rfl (by kernel_rfl) (by kernel_rfl) (by kernel_rfl) (fun _ _ _ h => h) (Or.inl ⟨by kernel_rfl, by intro w hSw; (try dsimp only at hSw); go_simp⟩) (by assumption) ?_
        simp only [Act.put, List.setIfInBounds_toArray, List.set_cons_zero, List.set_cons_succ]
        refine wpAnyH_take (i := 1) (v := .pointer (some ⟨w.heap.size, 3, none⟩)) rfl (by kernel_rfl) (by kernel_rfl) (by kernel_rfl) (fun _ _ _ h => h) (Or.inl ⟨by kernel_rfl, by intro w hSw; (try dsimp only at hSw); go_simp⟩) (by assumption) ?_
        simp only [Act.put, List.setIfInBounds_toArray, List.set_cons_zero, List.set_cons_succ]
        refine wpAnyH_take (i := 2) (v := .slice (some ⟨g, o, none⟩) d.claims.length k3) rfl (by kernel_rfl) (by kernel_rfl) (by kernel_rfl) (fun _ _ _ h => h) (Or.inl ⟨by kernel_rfl, by intro w hSw; (try dsimp only at hSw); obtain ⟨h1, h2, h3, h4, h5⟩ := hSw; have m0 := blk_cell h1 0; have m1 := blk_cell h1 1; have m2 := blk_cell h1 2; have m3 := blk_cell h1 3; clear h1 h2 h3 h4 h5; go_simp⟩) (by assumption) ?_
        simp only [Act.put, List.setIfInBounds_toArray, List.set_cons_zero, List.set_cons_succ]
        refine wpAnyH_take (i := 3) (v := .int .i64 (d.claims.length : Int)) rfl (by kernel_rfl) (by kernel_rfl) (by kernel_rfl) (fun _ _ _ h => h) (Or.inl ⟨by kernel_rfl, by intro w hSw; (try dsimp only at hSw); go_simp⟩) (by assumption) ?_
        simp only [Act.put, List.setIfInBounds_toArray, List.set_cons_zero, List.set_cons_succ]
        refine wpAnyH_take (i := 4) (v := .bool true) rfl (by kernel_rfl) (by kernel_rfl) (by kernel_rfl) (fun _ _ _ h => h) (Or.inl ⟨by kernel_rfl, by intro w hSw; (try dsimp only at hSw); go_simp⟩) (by assumption) ?_
        simp only [Act.put, List.setIfInBounds_toArray, List.set_cons_zero, List.set_cons_succ]
        refine wpAnyH_take (i := 5) (v := .bool true) rfl (by kernel_rfl) (by kernel_rfl) (by kernel_rfl) (fun _ _ _ h => h) (Or.inl ⟨by kernel_rfl, by intro w hSw; (try dsimp only at hSw); go_simp⟩) (by assumption) ?_
        simp only [Act.put, List.setIfInBounds_toArray, List.set_cons_zero, List.set_cons_succ]
        refine wpAnyH_take (i := 6) (v := .pointer (some ⟨w.heap.size, 3, none⟩)) rfl (by kernel_rfl) (by kernel_rfl) (by kernel_rfl) (fun _ _ _ h => h) (Or.inl ⟨by kernel_rfl, by intro w hSw; (try dsimp only at hSw); go_simp⟩) (by assumption) ?_
        simp only [Act.put, List.setIfInBounds_toArray, List.set_cons_zero, List.set_cons_succ]
        refine wpAnyH_take (i := 7) (v := .slice (some ⟨g, o, none⟩) d.claims.length k3) rfl (by kernel_rfl) (by kernel_rfl) (by kernel_rfl) (fun _ _ _ h => h) (Or.inl ⟨by kernel_rfl, by intro w hSw; (try dsimp only at hSw); obtain ⟨h1, h2, h3, h4, h5⟩ := hSw; have m0 := blk_cell h1 0; have m1 := blk_cell h1 1; have m2 := blk_cell h1 2; have m3 := blk_cell h1 3; clear h1 h2 h3 h4 h5; go_simp⟩) (by assumption) ?_
        simp only [Act.put, List.setIfInBounds_toArray, List.set_cons_zero, List.set_cons_succ]
        refine wpAnyH_take (i := 8) (v := .int .i64 (k : Int)) rfl (by kernel_rfl) (by kernel_rfl) (by kernel_rfl) (fun _ _ _ h => h) (Or.inl ⟨by kernel_rfl, by intro w hSw; (try dsimp only at hSw); go_simp⟩) (by assumption) ?_
        simp only [Act.put, List.setIfInBounds_toArray, List.set_cons_zero, List.set_cons_succ]
        refine wpAnyH_take (i := 9) (v := .pointer (some ⟨g, o + k * 3, none⟩)) rfl (by kernel_rfl) (by kernel_rfl) (by kernel_rfl) (fun _ _ _ h => h) (Or.inl ⟨by kernel_rfl, by intro w hSw; (try dsimp only at hSw); go_simp⟩) (by assumption) ?_
        simp only [Act.put, List.setIfInBounds_toArray, List.set_cons_zero, List.set_cons_succ]
        refine wpAnyH_take (i := 10) (v := .agg #[.int .i64 d.claims[k].inst, .int .i64 d.claims[k].step, .int .i64 d.claims[k].user]) rfl (by kernel_rfl) (by kernel_rfl) (by kernel_rfl) (fun _ _ _ h => h) (Or.inl ⟨by kernel_rfl, by intro w hSw; (try dsimp only at hSw); obtain ⟨h1, h2, h3, h4, h5⟩ := hSw; clear h1 h2; go_simp⟩) (by assumption) ?_
        simp only [Act.put, List.setIfInBounds_toArray, List.set_cons_zero, List.set_cons_succ]
        refine wpAnyH_take (i := 11) (v := .agg #[.int .i64 i, .int .i64 s, .int .i64 u]) rfl (by kernel_rfl) (by kernel_rfl) (by kernel_rfl) (fun _ _ _ h => h) (Or.inl ⟨by kernel_rfl, by intro w hSw; (try dsimp only at hSw); obtain ⟨h1, h2, h3, h4, h5⟩ := hSw; have m0 := blk_cell h2 0; have m1 := blk_cell h2 1; have m2 := blk_cell h2 2; clear h1 h2 h3 h4 h5; go_simp⟩) (by assumption) ?_
        simp only [Act.put, List.setIfInBounds_toArray, List.set_cons_zero, List.set_cons_succ]
        refine wpAnyH_ready (rs := [12]) (by kernel_rfl) (by simp) ?_
        refine AllReadyH.cons rfl (fun K hK => ?_) AllReadyH.nil
        go_simp
        go_at_call 85
        refine (Dk.specAhead d.claims[k] ⟨i, s, u⟩ _).mono ?_
        rintro z we ⟨rfl, hbe⟩
        rw [hah]
        have hbe2 : Below wr.heap.size wr we := ((Below.refl wr.heap.size wr).drew).trans (hbe.mono ((Below.refl wr.heap.size wr).drew).size)
        have HSe : Hid (we.heap[w.heap.size]? = some (.cells #[.slice a1 d.eng.procs.length k1, .slice a2 d.eng.insts.length k2, .int .i64 d.eng.now, .slice (some ⟨g, o, none⟩) d.claims.length k3] 30) ∧ we.heap[w2.heap.size + 1]? = some (.cells #[.int .i64 i, .int .i64 s, .int .i64 u] 143) ∧ we.cell? ⟨g, o + k * 3, none⟩ = some (.int .i64 d.claims[k].inst) ∧ we.cell? ⟨g, o + k * 3 + 1, none⟩ = some (.int .i64 d.claims[k].step) ∧ we.cell? ⟨g, o + k * 3 + 2, none⟩ = some (.int .i64 d.claims[k].user)) := hid ⟨(hbe2.block _ (blk_lt HKr.out)).trans HSd.out.1, (hbe2.block _ (blk_lt HXr.out)).trans HSd.out.2.1, St.old_cell hbe2 HGL.out HSd.out.2.2.1, St.old_cell hbe2 HGL.out HSd.out.2.2.2.1, St.old_cell hbe2 HGL.out HSd.out.2.2.2.2⟩
        have HBE := hid hbe2
        clear hbe hbe2
        go_wp2_with fail
        refine hK.out _ _ HSe.out (fun hHeld => ?_)
        clear hK K
        try simp only [Act.put, List.setIfInBounds_toArray, List.set_cons_zero, List.set_cons_succ]
        refine wpAnyH_take (i := 13) (v := .bool true) rfl (by kernel_rfl) (by kernel_rfl) (by kernel_rfl) (fun _ _ _ h => h) (Or.inl ⟨by kernel_rfl, by intro w hSw; (try dsimp only at hSw); go_simp⟩) (by assumption) ?_
        simp only [Act.put, List.setIfInBounds_toArray, List.set_cons_zero, List.set_cons_succ]
        refine wpAnyH_done (by kernel_rfl) ?_ _
        simp only [List.getElem_toArray, List.getElem_cons_succ, List.getElem_cons_zero, Act.put, List.setIfInBounds_toArray, List.set_cons_zero, List.set_cons_succ]
        clear hHeld HSd HSe
        go_wp2
        exact ⟨⟨k + 1, by simp, by omega, hid (fun j hj hjk => by by_cases e : j = k; (subst e; exact hah); exact HAH.out j hj (by omega)), hid (HBR.out.trans (HBE.out.mono HBR.out.size))⟩, by simp [intOf]; omega⟩
      case' false =>
        have HIN := hid (insert_place (x := ⟨i, s, u⟩) hk HAH.out (fun _ => hah))
        go_wp2
        refine wp_region_held_drew (S := fun wx => wx.heap[w.heap.size]? = some (.cells #[.slice a1 d.eng.procs.length k1, .slice a2 d.eng.insts.length k2, .int .i64 d.eng.now, .slice (some ⟨g, o, none⟩) d.claims.length k3] 30) ∧ wx.heap[w2.heap.size + 1]? = some (.cells #[.int .i64 i, .int .i64 s, .int .i64 u] 143) ∧ wx.cell? ⟨g, o + k * 3, none⟩ = some (.int .i64 d.claims[k].inst) ∧ wx.cell? ⟨g, o + k * 3 + 1, none⟩ = some (.int .i64 d.claims[k].step) ∧ wx.cell? ⟨g, o + k * 3 + 2, none⟩ = some (.int .i64 d.claims[k].user)) (by kernel_rfl) HSd.out (fun hHeld => ?_)
        refine wpAnyH_take (i := 0) (v := .int .i64 (k : Int)) rfl (by kernel_rfl) (by kernel_rfl) (by kernel_rfl) (fun _ _ _ h => h) (Or.inl ⟨by kernel_rfl, by intro w hSw; (try dsimp only at hSw); go_simp⟩) (by assumption) ?_
        simp only [Act.put, List.setIfInBounds_toArray, List.set_cons_zero, List.set_cons_succ]
        refine wpAnyH_take (i := 1) (v := .pointer (some ⟨w.heap.size, 3, none⟩)) rfl (by kernel_rfl) (by kernel_rfl) (by kernel_rfl) (fun _ _ _ h => h) (Or.inl ⟨by kernel_rfl, by intro w hSw; (try dsimp only at hSw); go_simp⟩) (by assumption) ?_
        simp only [Act.put, List.setIfInBounds_toArray, List.set_cons_zero, List.set_cons_succ]
        refine wpAnyH_take (i := 2) (v := .slice (some ⟨g, o, none⟩) d.claims.length k3) rfl (by kernel_rfl) (by kernel_rfl) (by kernel_rfl) (fun _ _ _ h => h) (Or.inl ⟨by kernel_rfl, by intro w hSw; (try dsimp only at hSw); obtain ⟨h1, h2, h3, h4, h5⟩ := hSw; have m0 := blk_cell h1 0; have m1 := blk_cell h1 1; have m2 := blk_cell h1 2; have m3 := blk_cell h1 3; clear h1 h2 h3 h4 h5; go_simp⟩) (by assumption) ?_
        simp only [Act.put, List.setIfInBounds_toArray, List.set_cons_zero, List.set_cons_succ]
        refine wpAnyH_take (i := 3) (v := .int .i64 (d.claims.length : Int)) rfl (by kernel_rfl) (by kernel_rfl) (by kernel_rfl) (fun _ _ _ h => h) (Or.inl ⟨by kernel_rfl, by intro w hSw; (try dsimp only at hSw); go_simp⟩) (by assumption) ?_
        simp only [Act.put, List.setIfInBounds_toArray, List.set_cons_zero, List.set_cons_succ]
        refine wpAnyH_take (i := 4) (v := .bool true) rfl (by kernel_rfl) (by kernel_rfl) (by kernel_rfl) (fun _ _ _ h => h) (Or.inl ⟨by kernel_rfl, by intro w hSw; (try dsimp only at hSw); go_simp⟩) (by assumption) ?_
        simp only [Act.put, List.setIfInBounds_toArray, List.set_cons_zero, List.set_cons_succ]
        refine wpAnyH_take (i := 5) (v := .bool true) rfl (by kernel_rfl) (by kernel_rfl) (by kernel_rfl) (fun _ _ _ h => h) (Or.inl ⟨by kernel_rfl, by intro w hSw; (try dsimp only at hSw); go_simp⟩) (by assumption) ?_
        simp only [Act.put, List.setIfInBounds_toArray, List.set_cons_zero, List.set_cons_succ]
        refine wpAnyH_take (i := 6) (v := .pointer (some ⟨w.heap.size, 3, none⟩)) rfl (by kernel_rfl) (by kernel_rfl) (by kernel_rfl) (fun _ _ _ h => h) (Or.inl ⟨by kernel_rfl, by intro w hSw; (try dsimp only at hSw); go_simp⟩) (by assumption) ?_
        simp only [Act.put, List.setIfInBounds_toArray, List.set_cons_zero, List.set_cons_succ]
        refine wpAnyH_take (i := 7) (v := .slice (some ⟨g, o, none⟩) d.claims.length k3) rfl (by kernel_rfl) (by kernel_rfl) (by kernel_rfl) (fun _ _ _ h => h) (Or.inl ⟨by kernel_rfl, by intro w hSw; (try dsimp only at hSw); obtain ⟨h1, h2, h3, h4, h5⟩ := hSw; have m0 := blk_cell h1 0; have m1 := blk_cell h1 1; have m2 := blk_cell h1 2; have m3 := blk_cell h1 3; clear h1 h2 h3 h4 h5; go_simp⟩) (by assumption) ?_
        simp only [Act.put, List.setIfInBounds_toArray, List.set_cons_zero, List.set_cons_succ]
        refine wpAnyH_take (i := 8) (v := .int .i64 (k : Int)) rfl (by kernel_rfl) (by kernel_rfl) (by kernel_rfl) (fun _ _ _ h => h) (Or.inl ⟨by kernel_rfl, by intro w hSw; (try dsimp only at hSw); go_simp⟩) (by assumption) ?_
        simp only [Act.put, List.setIfInBounds_toArray, List.set_cons_zero, List.set_cons_succ]
        refine wpAnyH_take (i := 9) (v := .pointer (some ⟨g, o + k * 3, none⟩)) rfl (by kernel_rfl) (by kernel_rfl) (by kernel_rfl) (fun _ _ _ h => h) (Or.inl ⟨by kernel_rfl, by intro w hSw; (try dsimp only at hSw); go_simp⟩) (by assumption) ?_
        simp only [Act.put, List.setIfInBounds_toArray, List.set_cons_zero, List.set_cons_succ]
        refine wpAnyH_take (i := 10) (v := .agg #[.int .i64 d.claims[k].inst, .int .i64 d.claims[k].step, .int .i64 d.claims[k].user]) rfl (by kernel_rfl) (by kernel_rfl) (by kernel_rfl) (fun _ _ _ h => h) (Or.inl ⟨by kernel_rfl, by intro w hSw; (try dsimp only at hSw); obtain ⟨h1, h2, h3, h4, h5⟩ := hSw; clear h1 h2; go_simp⟩) (by assumption) ?_
        simp only [Act.put, List.setIfInBounds_toArray, List.set_cons_zero, List.set_cons_succ]
        refine wpAnyH_take (i := 11) (v := .agg #[.int .i64 i, .int .i64 s, .int .i64 u]) rfl (by kernel_rfl) (by kernel_rfl) (by kernel_rfl) (fun _ _ _ h => h) (Or.inl ⟨by kernel_rfl, by intro w hSw; (try dsimp only at hSw); obtain ⟨h1, h2, h3, h4, h5⟩ := hSw; have m0 := blk_cell h2 0; have m1 := blk_cell h2 1; have m2 := blk_cell h2 2; clear h1 h2 h3 h4 h5; go_simp⟩) (by assumption) ?_
        simp only [Act.put, List.setIfInBounds_toArray, List.set_cons_zero, List.set_cons_succ]
        refine wpAnyH_ready (rs := [12]) (by kernel_rfl) (by simp) ?_
        refine AllReadyH.cons rfl (fun K hK => ?_) AllReadyH.nil
        go_simp
        go_at_call 85
        refine (Dk.specAhead d.claims[k] ⟨i, s, u⟩ _).mono ?_
        rintro z we ⟨rfl, hbe⟩
        rw [hah]
        have hbe2 : Below wr.heap.size wr we := ((Below.refl wr.heap.size wr).drew).trans (hbe.mono ((Below.refl wr.heap.size wr).drew).size)
        have HSe : Hid (we.heap[w.heap.size]? = some (.cells #[.slice a1 d.eng.procs.length k1, .slice a2 d.eng.insts.length k2, .int .i64 d.eng.now, .slice (some ⟨g, o, none⟩) d.claims.length k3] 30) ∧ we.heap[w2.heap.size + 1]? = some (.cells #[.int .i64 i, .int .i64 s, .int .i64 u] 143) ∧ we.cell? ⟨g, o + k * 3, none⟩ = some (.int .i64 d.claims[k].inst) ∧ we.cell? ⟨g, o + k * 3 + 1, none⟩ = some (.int .i64 d.claims[k].step) ∧ we.cell? ⟨g, o + k * 3 + 2, none⟩ = some (.int .i64 d.claims[k].user)) := hid ⟨(hbe2.block _ (blk_lt HKr.out)).trans HSd.out.1, (hbe2.block _ (blk_lt HXr.out)).trans HSd.out.2.1, St.old_cell hbe2 HGL.out HSd.out.2.2.1, St.old_cell hbe2 HGL.out HSd.out.2.2.2.1, St.old_cell hbe2 HGL.out HSd.out.2.2.2.2⟩
        have HBE := hid hbe2
        clear hbe hbe2
        go_wp2_with fail
        refine hK.out _ _ HSe.out (fun hHeld => ?_)
        clear hK K
        try simp only [Act.put, List.setIfInBounds_toArray, List.set_cons_zero, List.set_cons_succ]
        refine wpAnyH_take (i := 13) (v := .bool false) rfl (by kernel_rfl) (by kernel_rfl) (by kernel_rfl) (fun _ _ _ h => h) (Or.inl ⟨by kernel_rfl, by intro w hSw; (try dsimp only at hSw); go_simp⟩) (by assumption) ?_
        simp only [Act.put, List.setIfInBounds_toArray, List.set_cons_zero, List.set_cons_succ]
        refine wpAnyH_done (by kernel_rfl) ?_ _
        simp only [List.getElem_toArray, List.getElem_cons_succ, List.getElem_cons_zero, Act.put, List.setIfInBounds_toArray, List.set_cons_zero, List.set_cons_succ]
        clear hHeld HSd HSe
        have HKe : Hid (we.heap[w.heap.size]? = some (.cells #[.slice a1 d.eng.procs.length k1, .slice a2 d.eng.insts.length k2, .int .i64 d.eng.now, .slice a3 d.claims.length k3] 30)) := hid ((HBE.out.block _ (blk_lt HKr.out)).trans HKr.out)
        have HXe : Hid (we.heap[w2.heap.size + 1]? = some (.cells #[.int .i64 i, .int .i64 s, .int .i64 u] 143)) := hid ((HBE.out.block _ (blk_lt HXr.out)).trans HXr.out)
        have HOe : Hid (we.heap[w2.heap.size]? = some (.cells #[.slice p1 d.eng.procs.length q1, .slice p2 d.eng.insts.length q2, .int .i64 d.eng.now, .slice ac d.claims.length kc] 30)) := hid ((HBE.out.block _ (blk_lt HOr.out)).trans HOr.out)
        have HRe : Hid (we.heap[w.heap.size + 1]? = some (.cells #[.int .i64 0, .int .i64 0, .slice none 0 0, .slice none 0 0, .int .i64 0, .slice none 0 0] 73)) := hid ((HBE.out.block _ (blk_lt HRr.out)).trans HRr.out)
        have HBe := hid (HBr.out.trans (HBE.out.mono HBr.out.size))
        have HUe := hid (HUr.out.below HBE.out)
        clear HBE HKr HXr HOr HRr HBr HUr HBR HAH HGL HKw3 HXw3 HOw3 HRw3 HBw3 HUw3
    case' neg =>
      have HIN := hid (insert_place (x := ⟨i, s, u⟩) hk HAH.out (fun h => absurd h hlt))
      have t1 : ¬ (k : Int) < (d.claims.length : Int) := by omega
      have m3 := blk_cell HKr.out 3
      have ml := blk_lt HKr.out
      go_wp2
      go_quiet (fail)
      obtain ⟨we, ewe⟩ : ∃ we, we = wr.drewN nq := ⟨_, rfl⟩
      rw [← ewe]
      have HKe : Hid (we.heap[w.heap.size]? = some (.cells #[.slice a1 d.eng.procs.length k1, .slice a2 d.eng.insts.length k2, .int .i64 d.eng.now, .slice a3 d.claims.length k3] 30)) := hid (by rw [ewe]; exact HKr.out)
      have HXe : Hid (we.heap[w2.heap.size + 1]? = some (.cells #[.int .i64 i, .int .i64 s, .int .i64 u] 143)) := hid (by rw [ewe]; exact HXr.out)
      have HOe : Hid (we.heap[w2.heap.size]? = some (.cells #[.slice p1 d.eng.procs.length q1, .slice p2 d.eng.insts.length q2, .int .i64 d.eng.now, .slice ac d.claims.length kc] 30)) := hid (by rw [ewe]; exact HOr.out)
      have HRe : Hid (we.heap[w.heap.size + 1]? = some (.cells #[.int .i64 0, .int .i64 0, .slice none 0 0, .slice none 0 0, .int .i64 0, .slice none 0 0] 73)) := hid (by rw [ewe]; exact HRr.out)
      have HBe : Hid (Below w.heap.size w we) := hid (by rw [ewe]; exact Nd.below_drewN HBr.out nq)
      have HUe := hid (show EOwnC we w1.heap.size w2.heap.size _ _ d.eng from by rw [ewe]; exact HUr.out.below (Nd.below_drewN (Below.refl _ _) nq))
      clear ewe m3 ml HKr HXr HOr HRr HBr HUr HBR HAH hlt t1 HKw3 HXw3 HOw3 HRw3 HBw3 HUw3
    all_goals
      have hce := (HAW.out.below HBe.out).claims
      obtain ⟨hf1, _⟩ := cut_first hce k hk
      obtain ⟨ar, cr, hr1, _⟩ := cut_rest hce k hk
      have HRT := hid (fun (W : World) (hb : Below w.heap.size w W) => row_first (HAW.out.below hb).claims hk)
      have HRD := hid (fun (W : World) (hb : Below w.heap.size w W) => row_rest hr1 (HAW.out.below hb).claims hk)
      clear hce
      obtain ⟨e0, ee0⟩ : ∃ e0, e0 = we.drew := ⟨_, rfl⟩
      have hbe0 : Below we.heap.size we e0 := by rw [ee0]; exact (Below.refl _ we).drew
      have HKe0 : Hid (e0.heap[w.heap.size]? = some (.cells #[.slice a1 d.eng.procs.length k1, .slice a2 d.eng.insts.length k2, .int .i64 d.eng.now, .slice a3 d.claims.length k3] 30)) := hid ((hbe0.block _ (blk_lt HKe.out)).trans HKe.out)
      have HXe0 : Hid (e0.heap[w2.heap.size + 1]? = some (.cells #[.int .i64 i, .int .i64 s, .int .i64 u] 143)) := hid ((hbe0.block _ (blk_lt HXe.out)).trans HXe.out)
      have HOe0 : Hid (e0.heap[w2.heap.size]? = some (.cells #[.slice p1 d.eng.procs.length q1, .slice p2 d.eng.insts.length q2, .int .i64 d.eng.now, .slice ac d.claims.length kc] 30)) := hid ((hbe0.block _ (blk_lt HOe.out)).trans HOe.out)
      have HRe0 : Hid (e0.heap[w.heap.size + 1]? = some (.cells #[.int .i64 0, .int .i64 0, .slice none 0 0, .slice none 0 0, .int .i64 0, .slice none 0 0] 73)) := hid ((hbe0.block _ (blk_lt HRe.out)).trans HRe.out)
      have HBe0 := hid (HBe.out.trans (hbe0.mono HBe.out.size))
      obtain ⟨Bc, eBc⟩ : ∃ Bc, Bc = e0.heap.size := ⟨_, rfl⟩
      have hse0 : Bc ≤ e0.heap.size := Nat.le_of_eq eBc
      have HUe0 := hid (HUe.out.below hbe0)
      have HLB : Hid (w2.heap.size + 1 < Bc ∧ w.heap.size + 1 < w2.heap.size) := hid ⟨by rw [eBc]; exact blk_lt HXe0.out, HRO.out⟩
      have hSe0 : e0.heap[w.heap.size]? = some (.cells #[.slice a1 d.eng.procs.length k1, .slice a2 d.eng.insts.length k2, .int .i64 d.eng.now, .slice a3 d.claims.length k3] 30) ∧ e0.heap[w2.heap.size + 1]? = some (.cells #[.int .i64 i, .int .i64 s, .int .i64 u] 143) := ⟨HKe0.out, HXe0.out⟩
      clear hbe0 eBc HKe HXe HOe HRe HUe HBe
      go_wp2
      rw [ee0] at hSe0
      refine wp_region_held_drew (S := fun wx => wx.heap[w.heap.size]? = some (.cells #[.slice a1 d.eng.procs.length k1, .slice a2 d.eng.insts.length k2, .int .i64 d.eng.now, .slice a3 d.claims.length k3] 30) ∧ wx.heap[w2.heap.size + 1]? = some (.cells #[.int .i64 i, .int .i64 s, .int .i64 u] 143)) (by kernel_rfl) hSe0 (fun hHeld => ?_)
      rw [← ee0] at *
      refine wpAnyH_take (i := 1) (v := .pointer (some ⟨w.heap.size, 3, none⟩)) rfl (by kernel_rfl) (by kernel_rfl) (by kernel_rfl) (fun _ _ _ h => h) (Or.inl ⟨by kernel_rfl, by intro w hSw; (try dsimp only at hSw); go_simp⟩) (by assumption) ?_
      simp only [Act.put, List.setIfInBounds_toArray, List.set_cons_zero, List.set_cons_succ]
      refine wpAnyH_take (i := 2) (v := .slice a3 d.claims.length k3) rfl (by kernel_rfl) (by kernel_rfl) (by kernel_rfl) (fun _ _ _ h => h) (Or.inl ⟨by kernel_rfl, by intro w hSw; (try dsimp only at hSw); have m0 := Ch.blk_cell hSw.1 0; have m1 := Ch.blk_cell hSw.1 1; have m2 := Ch.blk_cell hSw.1 2; have m3 := Ch.blk_cell hSw.1 3; clear hSw; go_simp⟩) (by assumption) ?_
      simp only [Act.put, List.setIfInBounds_toArray, List.set_cons_zero, List.set_cons_succ]
      refine wpAnyH_take (i := 3) (v := .int .i64 (k : Int)) rfl (by kernel_rfl) (by kernel_rfl) (by kernel_rfl) (fun _ _ _ h => h) (Or.inl ⟨by kernel_rfl, by intro w hSw; (try dsimp only at hSw); go_simp⟩) (by assumption) ?_
      simp only [Act.put, List.setIfInBounds_toArray, List.set_cons_zero, List.set_cons_succ]
      refine wpAnyH_take (i := 4) (v := .slice a3 k k3) rfl (by kernel_rfl) (by kernel_rfl) (by kernel_rfl) (fun _ _ _ h => h) (Or.inl ⟨by kernel_rfl, by intro w hSw; (try dsimp only at hSw); have hf1 := hf1 w; go_simp⟩) (by assumption) ?_
      simp only [Act.put, List.setIfInBounds_toArray, List.set_cons_zero, List.set_cons_succ]
      refine wpAnyH_take (i := 6) (v := .agg #[.int .i64 i, .int .i64 s, .int .i64 u]) rfl (by kernel_rfl) (by kernel_rfl) (by kernel_rfl) (fun _ _ _ h => h) (Or.inl ⟨by kernel_rfl, by intro w hSw; (try dsimp only at hSw); have m0 := blk_cell hSw.2 0; have m1 := blk_cell hSw.2 1; have m2 := blk_cell hSw.2 2; clear hSw; go_simp⟩) (by assumption) ?_
      simp only [Act.put, List.setIfInBounds_toArray, List.set_cons_zero, List.set_cons_succ]
      refine wpAnyH_take (i := 9) (v := .pointer (some ⟨w.heap.size, 3, none⟩)) rfl (by kernel_rfl) (by kernel_rfl) (by kernel_rfl) (fun _ _ _ h => h) (Or.inl ⟨by kernel_rfl, by intro w hSw; (try dsimp only at hSw); go_simp⟩) (by assumption) ?_
      simp only [Act.put, List.setIfInBounds_toArray, List.set_cons_zero, List.set_cons_succ]
      refine wpAnyH_take (i := 10) (v := .slice a3 d.claims.length k3) rfl (by kernel_rfl) (by kernel_rfl) (by kernel_rfl) (fun _ _ _ h => h) (Or.inl ⟨by kernel_rfl, by intro w hSw; (try dsimp only at hSw); have m0 := Ch.blk_cell hSw.1 0; have m1 := Ch.blk_cell hSw.1 1; have m2 := Ch.blk_cell hSw.1 2; have m3 := Ch.blk_cell hSw.1 3; clear hSw; go_simp⟩) (by assumption) ?_
      simp only [Act.put, List.setIfInBounds_toArray, List.set_cons_zero, List.set_cons_succ]
      refine wpAnyH_take (i := 11) (v := .int .i64 (k : Int)) rfl (by kernel_rfl) (by kernel_rfl) (by kernel_rfl) (fun _ _ _ h => h) (Or.inl ⟨by kernel_rfl, by intro w hSw; (try dsimp only at hSw); go_simp⟩) (by assumption) ?_
      simp only [Act.put, List.setIfInBounds_toArray, List.set_cons_zero, List.set_cons_succ]
      refine wpAnyH_take (i := 12) (v := .slice ar (d.claims.length - k) cr) rfl (by kernel_rfl) (by kernel_rfl) (by kernel_rfl) (fun _ _ _ h => h) (Or.inl ⟨by kernel_rfl, by intro w hSw; (try dsimp only at hSw); have hr1 := hr1 w; go_simp⟩) (by assumption) ?_
      simp only [Act.put, List.setIfInBounds_toArray, List.set_cons_zero, List.set_cons_succ]
      clear hf1 hr1 ee0 hSe0
      refine wpAnyH_ready (rs := [0, 7]) (by kernel_rfl) (by simp) ?_
      refine (AllReadyH.cons rfl (fun K hK => ?_) (AllReadyH.cons rfl (fun K hK => ?_) AllReadyH.nil))
      go_simp
      obtain ⟨x1, ex1⟩ : ∃ x1, x1 = e0.alloc (.cells #[] 143) := ⟨_, rfl⟩
      obtain ⟨E1, eE1⟩ : ∃ E1, E1 = e0.heap.size := ⟨_, rfl⟩
      have hbx1 : Below e0.heap.size e0 x1 := by rw [ex1]; exact (Below.refl _ e0).alloc (Nat.le_refl _) _
      have NE1 : Hid (x1.heap[E1]? = some (.cells #[] 143)) := hid (by rw [ex1, eE1]; exact new_blk _ _)
      have hzE1 : Bc ≤ E1 := by rw [eE1]; exact hse0
      have hsx1 : Bc ≤ x1.heap.size := Nat.le_trans hse0 hbx1.size
      have EE1 := hid (show E1 = e0.heap.size from eE1)
      rw [← ex1, ← eE1]
      clear ex1 eE1
      have HKx1 : Hid (x1.heap[w.heap.size]? = some (.cells #[.slice a1 d.eng.procs.length k1, .slice a2 d.eng.insts.length k2, .int .i64 d.eng.now, .slice a3 d.claims.length k3] 30)) := hid ((hbx1.block _ (blk_lt HKe0.out)).trans HKe0.out)
      have HXx1 : Hid (x1.heap[w2.heap.size + 1]? = some (.cells #[.int .i64 i, .int .i64 s, .int .i64 u] 143)) := hid ((hbx1.block _ (blk_lt HXe0.out)).trans HXe0.out)
      have HOx1 : Hid (x1.heap[w2.heap.size]? = some (.cells #[.slice p1 d.eng.procs.length q1, .slice p2 d.eng.insts.length q2, .int .i64 d.eng.now, .slice ac d.claims.length kc] 30)) := hid ((hbx1.block _ (blk_lt HOe0.out)).trans HOe0.out)
      have HRx1 : Hid (x1.heap[w.heap.size + 1]? = some (.cells #[.int .i64 0, .int .i64 0, .slice none 0 0, .slice none 0 0, .int .i64 0, .slice none 0 0] 73)) := hid ((hbx1.block _ (blk_lt HRe0.out)).trans HRe0.out)
      have HBx1 := hid (HBe0.out.trans (hbx1.mono HBe0.out.size))
      have OWE := hid (raw_empty hzE1 NE1.out)
      have HUx1 := hid (HUe0.out.below hbx1)
      clear hbx1
      refine hK.out _ _ ⟨HKx1.out, HXx1.out⟩ (fun hHeld => ?_)
      clear hK K
      try simp only [Act.put, List.setIfInBounds_toArray, List.set_cons_zero, List.set_cons_succ]
      refine wpAnyH_ready (rs := [5, 7]) (by kernel_rfl) (by simp) ?_
      refine (AllReadyH.cons rfl (fun K hK => ?_) (AllReadyH.cons rfl (fun K hK => ?_) AllReadyH.nil))
      refine Ap.step_any _ (by rfl) _ _ 28 (by rfl) Bc 143 i0 (.agg #[.int .i64 0, .int .i64 0, .int .i64 0]) 3 24 Tryz.underlying28 hi0 hz0 hz1 hz2 rfl (by decide) (.slice (some ⟨E1, 0, none⟩) 0 0) (0) ([]) (by rfl) OWE.out (.slice a3 k k3) (k) (Of.cvals (d.claims.take k)) (by rfl) ((HRT.out _ HBx1.out)) (by unfold maxLen; omega) (by omega) hsx1 _ rfl ?_
      intro aw cw w4 hown hg hat
      obtain ⟨n4, en4⟩ : ∃ m, m = 0 + (k) := ⟨_, rfl⟩
      rw [← en4] at hown ⊢
      have Hn4 := hid en4
      have hn4le : n4 ≤ 100 := by omega
      have OWw4 := hid hown
      have hsw4 : Bc ≤ w4.heap.size := Nat.le_trans hsx1 hg.size
      have HKw4 : Hid (w4.heap[w.heap.size]? = some (.cells #[.slice a1 d.eng.procs.length k1, .slice a2 d.eng.insts.length k2, .int .i64 d.eng.now, .slice a3 d.claims.length k3] 30)) := hid ((hg.block _ (blk_lt HKx1.out) (fun e => by have := (World.ownsRow.lt OWE.out _ e.symm).1; have := HLB.out; omega)).trans HKx1.out)
      have HXw4 : Hid (w4.heap[w2.heap.size + 1]? = some (.cells #[.int .i64 i, .int .i64 s, .int .i64 u] 143)) := hid ((hg.block _ (blk_lt HXx1.out) (fun e => by have := (World.ownsRow.lt OWE.out _ e.symm).1; have := HLB.out; omega)).trans HXx1.out)
      have HOw4 : Hid (w4.heap[w2.heap.size]? = some (.cells #[.slice p1 d.eng.procs.length q1, .slice p2 d.eng.insts.length q2, .int .i64 d.eng.now, .slice ac d.claims.length kc] 30)) := hid ((hg.block _ (blk_lt HOx1.out) (fun e => by have := (World.ownsRow.lt OWE.out _ e.symm).1; have := HLB.out; omega)).trans HOx1.out)
      have HRw4 : Hid (w4.heap[w.heap.size + 1]? = some (.cells #[.int .i64 0, .int .i64 0, .slice none 0 0, .slice none 0 0, .int .i64 0, .slice none 0 0] 73)) := hid ((hg.block _ (blk_lt HRx1.out) (fun e => by have := (World.ownsRow.lt OWE.out _ e.symm).1; have := HLB.out; omega)).trans HRx1.out)
      have HBw4 := hid (HBx1.out.grown hg HBx1.out.size (fun b e => by have := (World.ownsRow.lt OWE.out b e).1; have := HLB.out; omega))
      have HUw4 := hid (HUx1.out.keep hg.size (fun b _ hM hl => hg.block b hl (fun e => by have := (World.ownsRow.lt OWE.out _ e.symm).1; have := HLB.out; omega)))
      have OW4 := OWw4
      clear hg hat hown en4
      refine hK.out _ _ ⟨HKw4.out, HXw4.out⟩ (fun hHeld => ?_)
      clear hK K
      try simp only [Act.put, List.setIfInBounds_toArray, List.set_cons_zero, List.set_cons_succ]
      refine wpAnyH_ready (rs := [7]) (by kernel_rfl) (by simp) ?_
      refine AllReadyH.cons rfl (fun K hK => ?_) AllReadyH.nil
      go_simp
      obtain ⟨wv, ewv⟩ : ∃ wv, wv = w4.alloc (.cells #[.int .i64 i, .int .i64 s, .int .i64 u] 143) := ⟨_, rfl⟩
      obtain ⟨Y, eY⟩ : ∃ Y, Y = w4.heap.size := ⟨_, rfl⟩
      have hbwv : Below w4.heap.size w4 wv := by rw [ewv]; exact (Below.refl _ w4).alloc (Nat.le_refl _) _
      have NY : Hid (wv.heap[Y]? = some (.cells #[.int .i64 i, .int .i64 s, .int .i64 u] 143)) := hid (by rw [ewv, eY]; exact new_blk _ _)
      have hzY : Bc ≤ Y := by rw [eY]; exact hsw4
      have hswv : Bc ≤ wv.heap.size := Nat.le_trans hsw4 hbwv.size
      have EY := hid (show Y = w4.heap.size from eY)
      rw [← ewv, ← eY]
      clear ewv eY
      have HKwv : Hid (wv.heap[w.heap.size]? = some (.cells #[.slice a1 d.eng.procs.length k1, .slice a2 d.eng.insts.length k2, .int .i64 d.eng.now, .slice a3 d.claims.length k3] 30)) := hid ((hbwv.block _ (blk_lt HKw4.out)).trans HKw4.out)
      have HXwv : Hid (wv.heap[w2.heap.size + 1]? = some (.cells #[.int .i64 i, .int .i64 s, .int .i64 u] 143)) := hid ((hbwv.block _ (blk_lt HXw4.out)).trans HXw4.out)
      have HOwv : Hid (wv.heap[w2.heap.size]? = some (.cells #[.slice p1 d.eng.procs.length q1, .slice p2 d.eng.insts.length q2, .int .i64 d.eng.now, .slice ac d.claims.length kc] 30)) := hid ((hbwv.block _ (blk_lt HOw4.out)).trans HOw4.out)
      have HRwv : Hid (wv.heap[w.heap.size + 1]? = some (.cells #[.int .i64 0, .int .i64 0, .slice none 0 0, .slice none 0 0, .int .i64 0, .slice none 0 0] 73)) := hid ((hbwv.block _ (blk_lt HRw4.out)).trans HRw4.out)
      have HBwv := hid (HBw4.out.trans (hbwv.mono HBw4.out.size))
      have OW4 := hid (raw_kept OW4.out (fun b e => hbwv.block b (World.ownsRow.lt OW4.out b e).2))
      have HUwv := hid (HUw4.out.below hbwv)
      clear hbwv
      refine hK.out _ _ ⟨HKwv.out, HXwv.out⟩ (fun hHeld => ?_)
      clear hK K
      try simp only [Act.put, List.setIfInBounds_toArray, List.set_cons_zero, List.set_cons_succ]
      rotate_left
      go_simp
      obtain ⟨x2, ex2⟩ : ∃ x2, x2 = x1.alloc (.cells #[.int .i64 i, .int .i64 s, .int .i64 u] 143) := ⟨_, rfl⟩
      obtain ⟨Y, eY⟩ : ∃ Y, Y = x1.heap.size := ⟨_, rfl⟩
      have hbx2 : Below x1.heap.size x1 x2 := by rw [ex2]; exact (Below.refl _ x1).alloc (Nat.le_refl _) _
      have NY : Hid (x2.heap[Y]? = some (.cells #[.int .i64 i, .int .i64 s, .int .i64 u] 143)) := hid (by rw [ex2, eY]; exact new_blk _ _)
      have hzY : Bc ≤ Y := by rw [eY]; exact hsx1
      have hsx2 : Bc ≤ x2.heap.size := Nat.le_trans hsx1 hbx2.size
      have EY := hid (show Y = x1.heap.size from eY)
      rw [← ex2, ← eY]
      clear ex2 eY
      have HKx2 : Hid (x2.heap[w.heap.size]? = some (.cells #[.slice a1 d.eng.procs.length k1, .slice a2 d.eng.insts.length k2, .int .i64 d.eng.now, .slice a3 d.claims.length k3] 30)) := hid ((hbx2.block _ (blk_lt HKx1.out)).trans HKx1.out)
      have HXx2 : Hid (x2.heap[w2.heap.size + 1]? = some (.cells #[.int .i64 i, .int .i64 s, .int .i64 u] 143)) := hid ((hbx2.block _ (blk_lt HXx1.out)).trans HXx1.out)
      have HOx2 : Hid (x2.heap[w2.heap.size]? = some (.cells #[.slice p1 d.eng.procs.length q1, .slice p2 d.eng.insts.length q2, .int .i64 d.eng.now, .slice ac d.claims.length kc] 30)) := hid ((hbx2.block _ (blk_lt HOx1.out)).trans HOx1.out)
      have HRx2 : Hid (x2.heap[w.heap.size + 1]? = some (.cells #[.int .i64 0, .int .i64 0, .slice none 0 0, .slice none 0 0, .int .i64 0, .slice none 0 0] 73)) := hid ((hbx2.block _ (blk_lt HRx1.out)).trans HRx1.out)
      have HBx2 := hid (HBx1.out.trans (hbx2.mono HBx1.out.size))
      have OWE := hid (raw_kept OWE.out (fun b e => hbx2.block b (World.ownsRow.lt OWE.out b e).2))
      have HUx2 := hid (HUx1.out.below hbx2)
      have HNE : Hid (E1 < Y) := hid (by have := EY.out; have := blk_lt NE1.out; omega)
      clear hbx2
      refine hK.out _ _ ⟨HKx2.out, HXx2.out⟩ (fun hHeld => ?_)
      clear hK K
      try simp only [Act.put, List.setIfInBounds_toArray, List.set_cons_zero, List.set_cons_succ]
      refine wpAnyH_ready (rs := [5]) (by kernel_rfl) (by simp) ?_
      refine AllReadyH.cons rfl (fun K hK => ?_) AllReadyH.nil
      refine Ap.step_any _ (by rfl) _ _ 28 (by rfl) Bc 143 i0 (.agg #[.int .i64 0, .int .i64 0, .int .i64 0]) 3 24 Tryz.underlying28 hi0 hz0 hz1 hz2 rfl (by decide) (.slice (some ⟨E1, 0, none⟩) 0 0) (0) ([]) (by rfl) OWE.out (.slice a3 k k3) (k) (Of.cvals (d.claims.take k)) (by rfl) ((HRT.out _ HBx2.out)) (by unfold maxLen; omega) (by omega) hsx2 _ rfl ?_
      intro aw cw wv hown hg hat
      obtain ⟨n4, en4⟩ : ∃ m, m = 0 + (k) := ⟨_, rfl⟩
      rw [← en4] at hown ⊢
      have Hn4 := hid en4
      have hn4le : n4 ≤ 100 := by omega
      have OWwv := hid hown
      have hswv : Bc ≤ wv.heap.size := Nat.le_trans hsx2 hg.size
      have HKwv : Hid (wv.heap[w.heap.size]? = some (.cells #[.slice a1 d.eng.procs.length k1, .slice a2 d.eng.insts.length k2, .int .i64 d.eng.now, .slice a3 d.claims.length k3] 30)) := hid ((hg.block _ (blk_lt HKx2.out) (fun e => by have := (World.ownsRow.lt OWE.out _ e.symm).1; have := HLB.out; omega)).trans HKx2.out)
      have HXwv : Hid (wv.heap[w2.heap.size + 1]? = some (.cells #[.int .i64 i, .int .i64 s, .int .i64 u] 143)) := hid ((hg.block _ (blk_lt HXx2.out) (fun e => by have := (World.ownsRow.lt OWE.out _ e.symm).1; have := HLB.out; omega)).trans HXx2.out)
      have HOwv : Hid (wv.heap[w2.heap.size]? = some (.cells #[.slice p1 d.eng.procs.length q1, .slice p2 d.eng.insts.length q2, .int .i64 d.eng.now, .slice ac d.claims.length kc] 30)) := hid ((hg.block _ (blk_lt HOx2.out) (fun e => by have := (World.ownsRow.lt OWE.out _ e.symm).1; have := HLB.out; omega)).trans HOx2.out)
      have HRwv : Hid (wv.heap[w.heap.size + 1]? = some (.cells #[.int .i64 0, .int .i64 0, .slice none 0 0, .slice none 0 0, .int .i64 0, .slice none 0 0] 73)) := hid ((hg.block _ (blk_lt HRx2.out) (fun e => by have := (World.ownsRow.lt OWE.out _ e.symm).1; have := HLB.out; omega)).trans HRx2.out)
      have HBwv := hid (HBx2.out.grown hg HBx2.out.size (fun b e => by have := (World.ownsRow.lt OWE.out b e).1; have := HLB.out; omega))
      have HUwv := hid (HUx2.out.keep hg.size (fun b _ hM hl => hg.block b hl (fun e => by have := (World.ownsRow.lt OWE.out _ e.symm).1; have := HLB.out; omega)))
      have OW4 := OWwv
      replace NY := hid ((hg.block _ (blk_lt NY.out) (fun e => by have := HNE.out; simp [Value.ownBlock] at e; omega)).trans NY.out)
      clear hg hat hown en4
      refine hK.out _ _ ⟨HKwv.out, HXwv.out⟩ (fun hHeld => ?_)
      clear hK K
      try simp only [Act.put, List.setIfInBounds_toArray, List.set_cons_zero, List.set_cons_succ]
      rotate_left
      go_simp
      obtain ⟨x1, ex1⟩ : ∃ x1, x1 = e0.alloc (.cells #[.int .i64 i, .int .i64 s, .int .i64 u] 143) := ⟨_, rfl⟩
      obtain ⟨Y, eY⟩ : ∃ Y, Y = e0.heap.size := ⟨_, rfl⟩
      have hbx1 : Below e0.heap.size e0 x1 := by rw [ex1]; exact (Below.refl _ e0).alloc (Nat.le_refl _) _
      have NY : Hid (x1.heap[Y]? = some (.cells #[.int .i64 i, .int .i64 s, .int .i64 u] 143)) := hid (by rw [ex1, eY]; exact new_blk _ _)
      have hzY : Bc ≤ Y := by rw [eY]; exact hse0
      have hsx1 : Bc ≤ x1.heap.size := Nat.le_trans hse0 hbx1.size
      have EY := hid (show Y = e0.heap.size from eY)
      rw [← ex1, ← eY]
      clear ex1 eY
      have HKx1 : Hid (x1.heap[w.heap.size]? = some (.cells #[.slice a1 d.eng.procs.length k1, .slice a2 d.eng.insts.length k2, .int .i64 d.eng.now, .slice a3 d.claims.length k3] 30)) := hid ((hbx1.block _ (blk_lt HKe0.out)).trans HKe0.out)
      have HXx1 : Hid (x1.heap[w2.heap.size + 1]? = some (.cells #[.int .i64 i, .int .i64 s, .int .i64 u] 143)) := hid ((hbx1.block _ (blk_lt HXe0.out)).trans HXe0.out)
      have HOx1 : Hid (x1.heap[w2.heap.size]? = some (.cells #[.slice p1 d.eng.procs.length q1, .slice p2 d.eng.insts.length q2, .int .i64 d.eng.now, .slice ac d.claims.length kc] 30)) := hid ((hbx1.block _ (blk_lt HOe0.out)).trans HOe0.out)
      have HRx1 : Hid (x1.heap[w.heap.size + 1]? = some (.cells #[.int .i64 0, .int .i64 0, .slice none 0 0, .slice none 0 0, .int .i64 0, .slice none 0 0] 73)) := hid ((hbx1.block _ (blk_lt HRe0.out)).trans HRe0.out)
      have HBx1 := hid (HBe0.out.trans (hbx1.mono HBe0.out.size))
      have HUx1 := hid (HUe0.out.below hbx1)
      clear hbx1
      refine hK.out _ _ ⟨HKx1.out, HXx1.out⟩ (fun hHeld => ?_)
      clear hK K
      try simp only [Act.put, List.setIfInBounds_toArray, List.set_cons_zero, List.set_cons_succ]
      refine wpAnyH_ready (rs := [0]) (by kernel_rfl) (by simp) ?_
      refine AllReadyH.cons rfl (fun K hK => ?_) AllReadyH.nil
      go_simp
      obtain ⟨x2, ex2⟩ : ∃ x2, x2 = x1.alloc (.cells #[] 143) := ⟨_, rfl⟩
      obtain ⟨E1, eE1⟩ : ∃ E1, E1 = x1.heap.size := ⟨_, rfl⟩
      have hbx2 : Below x1.heap.size x1 x2 := by rw [ex2]; exact (Below.refl _ x1).alloc (Nat.le_refl _) _
      have NE1 : Hid (x2.heap[E1]? = some (.cells #[] 143)) := hid (by rw [ex2, eE1]; exact new_blk _ _)
      have hzE1 : Bc ≤ E1 := by rw [eE1]; exact hsx1
      have hsx2 : Bc ≤ x2.heap.size := Nat.le_trans hsx1 hbx2.size
      have EE1 := hid (show E1 = x1.heap.size from eE1)
      rw [← ex2, ← eE1]
      clear ex2 eE1
      have HKx2 : Hid (x2.heap[w.heap.size]? = some (.cells #[.slice a1 d.eng.procs.length k1, .slice a2 d.eng.insts.length k2, .int .i64 d.eng.now, .slice a3 d.claims.length k3] 30)) := hid ((hbx2.block _ (blk_lt HKx1.out)).trans HKx1.out)
      have HXx2 : Hid (x2.heap[w2.heap.size + 1]? = some (.cells #[.int .i64 i, .int .i64 s, .int .i64 u] 143)) := hid ((hbx2.block _ (blk_lt HXx1.out)).trans HXx1.out)
      have HOx2 : Hid (x2.heap[w2.heap.size]? = some (.cells #[.slice p1 d.eng.procs.length q1, .slice p2 d.eng.insts.length q2, .int .i64 d.eng.now, .slice ac d.claims.length kc] 30)) := hid ((hbx2.block _ (blk_lt HOx1.out)).trans HOx1.out)
      have HRx2 : Hid (x2.heap[w.heap.size + 1]? = some (.cells #[.int .i64 0, .int .i64 0, .slice none 0 0, .slice none 0 0, .int .i64 0, .slice none 0 0] 73)) := hid ((hbx2.block _ (blk_lt HRx1.out)).trans HRx1.out)
      have HBx2 := hid (HBx1.out.trans (hbx2.mono HBx1.out.size))
      have OWE := hid (raw_empty hzE1 NE1.out)
      have HUx2 := hid (HUx1.out.below hbx2)
      have HNE : Hid (Y < E1) := hid (by have := EE1.out; have := blk_lt NY.out; omega)
      replace NY := hid ((hbx2.block _ (blk_lt NY.out)).trans NY.out)
      clear hbx2
      refine hK.out _ _ ⟨HKx2.out, HXx2.out⟩ (fun hHeld => ?_)
      clear hK K
      try simp only [Act.put, List.setIfInBounds_toArray, List.set_cons_zero, List.set_cons_succ]
      refine wpAnyH_ready (rs := [5]) (by kernel_rfl) (by simp) ?_
      refine AllReadyH.cons rfl (fun K hK => ?_) AllReadyH.nil
      refine Ap.step_any _ (by rfl) _ _ 28 (by rfl) Bc 143 i0 (.agg #[.int .i64 0, .int .i64 0, .int .i64 0]) 3 24 Tryz.underlying28 hi0 hz0 hz1 hz2 rfl (by decide) (.slice (some ⟨E1, 0, none⟩) 0 0) (0) ([]) (by rfl) OWE.out (.slice a3 k k3) (k) (Of.cvals (d.claims.take k)) (by rfl) ((HRT.out _ HBx2.out)) (by unfold maxLen; omega) (by omega) hsx2 _ rfl ?_
      intro aw cw wv hown hg hat
      obtain ⟨n4, en4⟩ : ∃ m, m = 0 + (k) := ⟨_, rfl⟩
      rw [← en4] at hown ⊢
      have Hn4 := hid en4
      have hn4le : n4 ≤ 100 := by omega
      have OWwv := hid hown
      have hswv : Bc ≤ wv.heap.size := Nat.le_trans hsx2 hg.size
      have HKwv : Hid (wv.heap[w.heap.size]? = some (.cells #[.slice a1 d.eng.procs.length k1, .slice a2 d.eng.insts.length k2, .int .i64 d.eng.now, .slice a3 d.claims.length k3] 30)) := hid ((hg.block _ (blk_lt HKx2.out) (fun e => by have := (World.ownsRow.lt OWE.out _ e.symm).1; have := HLB.out; omega)).trans HKx2.out)
      have HXwv : Hid (wv.heap[w2.heap.size + 1]? = some (.cells #[.int .i64 i, .int .i64 s, .int .i64 u] 143)) := hid ((hg.block _ (blk_lt HXx2.out) (fun e => by have := (World.ownsRow.lt OWE.out _ e.symm).1; have := HLB.out; omega)).trans HXx2.out)
      have HOwv : Hid (wv.heap[w2.heap.size]? = some (.cells #[.slice p1 d.eng.procs.length q1, .slice p2 d.eng.insts.length q2, .int .i64 d.eng.now, .slice ac d.claims.length kc] 30)) := hid ((hg.block _ (blk_lt HOx2.out) (fun e => by have := (World.ownsRow.lt OWE.out _ e.symm).1; have := HLB.out; omega)).trans HOx2.out)
      have HRwv : Hid (wv.heap[w.heap.size + 1]? = some (.cells #[.int .i64 0, .int .i64 0, .slice none 0 0, .slice none 0 0, .int .i64 0, .slice none 0 0] 73)) := hid ((hg.block _ (blk_lt HRx2.out) (fun e => by have := (World.ownsRow.lt OWE.out _ e.symm).1; have := HLB.out; omega)).trans HRx2.out)
      have HBwv := hid (HBx2.out.grown hg HBx2.out.size (fun b e => by have := (World.ownsRow.lt OWE.out b e).1; have := HLB.out; omega))
      have HUwv := hid (HUx2.out.keep hg.size (fun b _ hM hl => hg.block b hl (fun e => by have := (World.ownsRow.lt OWE.out _ e.symm).1; have := HLB.out; omega)))
      have OW4 := OWwv
      replace NY := hid ((hg.block _ (blk_lt NY.out) (fun e => by have := HNE.out; simp [Value.ownBlock] at e; omega)).trans NY.out)
      clear hg hat hown en4
      refine hK.out _ _ ⟨HKwv.out, HXwv.out⟩ (fun hHeld => ?_)
      clear hK K
      try simp only [Act.put, List.setIfInBounds_toArray, List.set_cons_zero, List.set_cons_succ]
      all_goals
        refine wpAnyH_ready (rs := [8]) (by kernel_rfl) (by simp) ?_
        refine AllReadyH.cons rfl (fun K hK => ?_) AllReadyH.nil
        refine Ap.step_any _ (by rfl) _ _ 28 (by rfl) Bc 143 i0 (.agg #[.int .i64 0, .int .i64 0, .int .i64 0]) 3 24 Tryz.underlying28 hi0 hz0 hz1 hz2 rfl (by decide) (.slice aw n4 cw) (n4) (([] ++ Of.cvals (d.claims.take k))) (by rfl) OW4.out (.slice (some ⟨Y, 0, none⟩) 1 1) (1) (Of.cv ⟨i, s, u⟩) (by rfl) ((rowx_of NY.out)) (by unfold maxLen; omega) (by omega) hswv _ rfl ?_
        intro aw5 cw5 w5 hown hg hat
        obtain ⟨n5, en5⟩ : ∃ m, m = n4 + (1) := ⟨_, rfl⟩
        rw [← en5] at hown ⊢
        have Hn5 := hid en5
        have hn5le : n5 ≤ 200 := by omega
        have OWw5 := hid hown
        have hsw5 : Bc ≤ w5.heap.size := Nat.le_trans hswv hg.size
        have HKw5 : Hid (w5.heap[w.heap.size]? = some (.cells #[.slice a1 d.eng.procs.length k1, .slice a2 d.eng.insts.length k2, .int .i64 d.eng.now, .slice a3 d.claims.length k3] 30)) := hid ((hg.block _ (blk_lt HKwv.out) (fun e => by have := (World.ownsRow.lt OW4.out _ e.symm).1; have := HLB.out; omega)).trans HKwv.out)
        have HXw5 : Hid (w5.heap[w2.heap.size + 1]? = some (.cells #[.int .i64 i, .int .i64 s, .int .i64 u] 143)) := hid ((hg.block _ (blk_lt HXwv.out) (fun e => by have := (World.ownsRow.lt OW4.out _ e.symm).1; have := HLB.out; omega)).trans HXwv.out)
        have HOw5 : Hid (w5.heap[w2.heap.size]? = some (.cells #[.slice p1 d.eng.procs.length q1, .slice p2 d.eng.insts.length q2, .int .i64 d.eng.now, .slice ac d.claims.length kc] 30)) := hid ((hg.block _ (blk_lt HOwv.out) (fun e => by have := (World.ownsRow.lt OW4.out _ e.symm).1; have := HLB.out; omega)).trans HOwv.out)
        have HRw5 : Hid (w5.heap[w.heap.size + 1]? = some (.cells #[.int .i64 0, .int .i64 0, .slice none 0 0, .slice none 0 0, .int .i64 0, .slice none 0 0] 73)) := hid ((hg.block _ (blk_lt HRwv.out) (fun e => by have := (World.ownsRow.lt OW4.out _ e.symm).1; have := HLB.out; omega)).trans HRwv.out)
        have HBw5 := hid (HBwv.out.grown hg HBwv.out.size (fun b e => by have := (World.ownsRow.lt OW4.out b e).1; have := HLB.out; omega))
        have HUw5 := hid (HUwv.out.keep hg.size (fun b _ hM hl => hg.block b hl (fun e => by have := (World.ownsRow.lt OW4.out _ e.symm).1; have := HLB.out; omega)))
        clear hg hat hown en5
        refine hK.out _ _ ⟨HKw5.out, HXw5.out⟩ (fun hHeld => ?_)
        clear hK K
        try simp only [Act.put, List.setIfInBounds_toArray, List.set_cons_zero, List.set_cons_succ]
        refine wpAnyH_ready (rs := [13]) (by kernel_rfl) (by simp) ?_
        refine AllReadyH.cons rfl (fun K hK => ?_) AllReadyH.nil
        refine Ap.step_any _ (by rfl) _ _ 28 (by rfl) Bc 143 i0 (.agg #[.int .i64 0, .int .i64 0, .int .i64 0]) 3 24 Tryz.underlying28 hi0 hz0 hz1 hz2 rfl (by decide) (.slice aw5 n5 cw5) (n5) ((([] ++ Of.cvals (d.claims.take k)) ++ Of.cv ⟨i, s, u⟩)) (by rfl) OWw5.out (.slice ar (d.claims.length - k) cr) ((d.claims.length - k)) (Of.cvals (d.claims.drop k)) (by rfl) ((HRD.out _ HBw5.out)) (by unfold maxLen; omega) (by omega) hsw5 _ rfl ?_
        intro aw6 cw6 w6 hown hg hat
        obtain ⟨n6, en6⟩ : ∃ m, m = n5 + ((d.claims.length - k)) := ⟨_, rfl⟩
        rw [← en6] at hown ⊢
        have Hn6 := hid en6
        have hn6le : n6 ≤ 300 := by omega
        have OWw6 := hid hown
        have hsw6 : Bc ≤ w6.heap.size := Nat.le_trans hsw5 hg.size
        have HKw6 : Hid (w6.heap[w.heap.size]? = some (.cells #[.slice a1 d.eng.procs.length k1, .slice a2 d.eng.insts.length k2, .int .i64 d.eng.now, .slice a3 d.claims.length k3] 30)) := hid ((hg.block _ (blk_lt HKw5.out) (fun e => by have := (World.ownsRow.lt OWw5.out _ e.symm).1; have := HLB.out; omega)).trans HKw5.out)
        have HXw6 : Hid (w6.heap[w2.heap.size + 1]? = some (.cells #[.int .i64 i, .int .i64 s, .int .i64 u] 143)) := hid ((hg.block _ (blk_lt HXw5.out) (fun e => by have := (World.ownsRow.lt OWw5.out _ e.symm).1; have := HLB.out; omega)).trans HXw5.out)
        have HOw6 : Hid (w6.heap[w2.heap.size]? = some (.cells #[.slice p1 d.eng.procs.length q1, .slice p2 d.eng.insts.length q2, .int .i64 d.eng.now, .slice ac d.claims.length kc] 30)) := hid ((hg.block _ (blk_lt HOw5.out) (fun e => by have := (World.ownsRow.lt OWw5.out _ e.symm).1; have := HLB.out; omega)).trans HOw5.out)
        have HRw6 : Hid (w6.heap[w.heap.size + 1]? = some (.cells #[.int .i64 0, .int .i64 0, .slice none 0 0, .slice none 0 0, .int .i64 0, .slice none 0 0] 73)) := hid ((hg.block _ (blk_lt HRw5.out) (fun e => by have := (World.ownsRow.lt OWw5.out _ e.symm).1; have := HLB.out; omega)).trans HRw5.out)
        have HBw6 := hid (HBw5.out.grown hg HBw5.out.size (fun b e => by have := (World.ownsRow.lt OWw5.out b e).1; have := HLB.out; omega))
        have HUw6 := hid (HUw5.out.keep hg.size (fun b _ hM hl => hg.block b hl (fun e => by have := (World.ownsRow.lt OWw5.out _ e.symm).1; have := HLB.out; omega)))
        clear hg hat hown en6
        refine hK.out _ _ ⟨HKw6.out, HXw6.out⟩ (fun hHeld => ?_)
        clear hK K
        try simp only [Act.put, List.setIfInBounds_toArray, List.set_cons_zero, List.set_cons_succ]
        refine wpAnyH_take (i := 14) (v := .pointer (some ⟨w2.heap.size, 3, none⟩)) rfl (by kernel_rfl) (by kernel_rfl) (by kernel_rfl) (fun _ _ _ h => h) (Or.inl ⟨by kernel_rfl, by intro w hSw; (try dsimp only at hSw); go_simp⟩) (by assumption) ?_
        simp only [Act.put, List.setIfInBounds_toArray, List.set_cons_zero, List.set_cons_succ]
        have g3 := blk_cell HOw6.out 3
        have h3 := blk_free HOw6.out 3
        have gl := blk_lt HOw6.out
        obtain ⟨wS, eS⟩ : ∃ wS, wS = w6.setCell ⟨w2.heap.size, 3, none⟩ (.slice aw6 n6 cw6) := ⟨_, rfl⟩
        have KOS : Hid (wS.heap[w2.heap.size]? = some (.cells #[.slice p1 d.eng.procs.length q1, .slice p2 d.eng.insts.length q2, .int .i64 d.eng.now, .slice aw6 n6 cw6] 30)) := hid (by rw [eS]; have := blk_set (i := 3) HOw6.out (.slice aw6 n6 cw6); simpa using this)
        have hro : w.heap.size + 1 < w2.heap.size := HRO.out
        have HRS : Hid (wS.heap[w.heap.size + 1]? = some (.cells #[.int .i64 0, .int .i64 0, .slice none 0 0, .slice none 0 0, .int .i64 0, .slice none 0 0] 73)) := hid (by rw [eS, Below.heap_setCell _ _ _ _ (by dsimp only; omega)]; exact HRw6.out)
        have HSS : wS.heap[w.heap.size]? = some (.cells #[.slice a1 d.eng.procs.length k1, .slice a2 d.eng.insts.length k2, .int .i64 d.eng.now, .slice a3 d.claims.length k3] 30) ∧ wS.heap[w2.heap.size + 1]? = some (.cells #[.int .i64 i, .int .i64 s, .int .i64 u] 143) := ⟨by rw [eS, Below.heap_setCell _ _ _ _ (by dsimp only; omega)]; exact HKw6.out, by rw [eS, Below.heap_setCell _ _ _ _ (by dsimp only; omega)]; exact HXw6.out⟩
        have HBS : Hid (Below w.heap.size w wS) := hid (by rw [eS]; exact HBw6.out.setCell (by simp; omega) _)
        have HOS := hid (fun b (hb : b ≠ w2.heap.size) => show wS.heap[b]? = w6.heap[b]? by rw [eS]; exact Below.heap_setCell _ _ _ _ (by dsimp only; omega))
        have HZS : Hid (wS.heap.size = w6.heap.size) := hid (by rw [eS]; simp [World.setCell])
        refine wpAnyH_ready (rs := [15]) (by kernel_rfl) (by simp) ?_
        refine AllReadyH.cons rfl (fun K hK => ?_) AllReadyH.nil
        go_simp
        rw [← eS]
        refine hK.out _ _ HSS (fun hHeld => ?_)
        clear hK K
        try simp only [Act.put, List.setIfInBounds_toArray, List.set_cons_zero, List.set_cons_succ]
        refine wpAnyH_done (by kernel_rfl) ?_ _
        clear hHeld g3 h3 gl eS HSS
        have g0 := blk_cell KOS.out 0
        have g1 := blk_cell KOS.out 1
        have g2 := blk_cell KOS.out 2
        have g3 := blk_cell KOS.out 3
        have gl := blk_lt KOS.out
        obtain ⟨n0, n1, n2, n3, n4, n5, nf, nl⟩ := six HRS.out
        have f0 := nf 0
        have f1 := nf 1
        have f2 := nf 2
        have f3 := nf 3
        have f4 := nf 4
        have f5 := nf 5
        clear nf
        obtain ⟨w9, e9⟩ : ∃ w9, w9 = ((((((wS.setCell ⟨w.heap.size + 1, 0, none⟩ (.int .i64 0)).setCell ⟨w.heap.size + 1, 1, none⟩ (.int .i64 0)).setCell ⟨w.heap.size + 1, 2, none⟩ (.slice p1 d.eng.procs.length q1)).setCell ⟨w.heap.size + 1, 3, none⟩ (.slice p2 d.eng.insts.length q2)).setCell ⟨w.heap.size + 1, 4, none⟩ (.int .i64 d.eng.now)).setCell ⟨w.heap.size + 1, 5, none⟩ (.slice aw6 n6 cw6)) := ⟨_, rfl⟩
        have K9 : w9.heap[w.heap.size + 1]? = some (.cells #[.int .i64 0, .int .i64 0, .slice p1 d.eng.procs.length q1, .slice p2 d.eng.insts.length q2, .int .i64 d.eng.now, .slice aw6 n6 cw6] 73) := by rw [e9]; have := (blk_set (i := 5) (blk_set (i := 4) (blk_set (i := 3) (blk_set (i := 2) (blk_set (i := 1) (blk_set (i := 0) HRS.out (.int .i64 0)) (.int .i64 0)) (.slice p1 d.eng.procs.length q1)) (.slice p2 d.eng.insts.length q2)) (.int .i64 d.eng.now)) (.slice aw6 n6 cw6)); simpa using this
        have HB9 : Hid (Below w.heap.size w w9) := hid (by rw [e9]; exact below6 HBS.out (by omega) _ _ _ _ _ _)
        have HO9 := hid (fun b (hb : b ≠ w.heap.size + 1) => show w9.heap[b]? = wS.heap[b]? by rw [e9]; repeat rw [Below.heap_setCell _ _ _ _ (by dsimp only; omega)])
        have HZ9 : Hid (w9.heap.size = wS.heap.size) := hid (by rw [e9]; simp [World.setCell])
        go_wp2
        rw [← e9]
        clear e9
        obtain ⟨r0, r1, r2, r3, r4, r5, _, _⟩ := six K9
        have HLN : Hid (n6 = (insertC d.claims ⟨i, s, u⟩).length) := hid (by rw [insert_len]; have := Hn6.out; have := Hn5.out; have := Hn4.out; omega)
        have HVC : Hid (COwn w6 Bc (.slice aw6 n6 cw6) (insertC d.claims ⟨i, s, u⟩)) := hid (raw_claims OWw6.out HLN.out (by rw [HIN.out, cvals_app, cvals_app, cvals_one]; simp))
        refine bodyPost_ret (v := .agg #[.int .i64 0, .int .i64 0, .slice p1 d.eng.procs.length q1, .slice p2 d.eng.insts.length q2, .int .i64 d.eng.now, .slice aw6 n6 cw6]) (by simp [results, Tryz.results36, go_sem, r0, r1, r2, r3, r4, r5]) rfl ?_
        rw [HXC.out, HXD.out]
        refine ⟨⟨_, _, _, w2.heap.size, rfl, ?_, ?_, ?_, ?_⟩, HB9.out⟩
        · exact Fr.EOwnC.lower ((HUw6.out.keep (Nat.le_of_eq HZS.out.symm) (fun b _ hM _ => HOS.out b (by omega))).keep (Nat.le_of_eq HZ9.out.symm) (fun b hb _ _ => HO9.out b (by have := HLO.out; omega))) (by have := HLO.out; omega)
        · exact ((HVC.out.kept (fun b e => HOS.out b (by have := (HVC.out.lt e).1; have := HLB.out; omega))).kept (fun b e => HO9.out b (by have := (HVC.out.lt e).1; have := HLB.out; omega))).mono (by have := HLB.out; omega)
        · have := HZ12.out; have := HLO.out; omega
        · rw [HZ9.out, HZS.out]; have := HLB.out; omega
end Fr
end Go.Proofs.YtccklgopcjilcaaGreatDoor
