/- What the program keeps for the time when a step is idle. -/
import Derived.Test.YtpgbjpfpgbjbeaaGreatDoorJCh39
namespace Go.Proofs.YtpgbjpfpgbjbeaaGreatDoor
open Go.RowKit Go.Deep
set_option linter.unusedVariables false
set_option linter.unusedSimpArgs false
namespace Ku
open Ex (inR evalCode evalVal vFault hid)
open St (StepD)
open Pf
open Kc (CS upd zer endOf stopped idle pick aft allOver kid go mE mO Ok kid_mem kid_lt kid_in KAt Rides kval PBlk cntK beginG behindG)
theorem aft_from {l : List Nat} {k : Nat} : ∀ {i : Nat}, i < l.length → (∀ j (hj : j < l.length), j < i → l[j] ≠ k) → aft l k = aft (l.drop i) k
  | 0, _, _ => by rw [List.drop_zero]
  | i + 1, hi, h => by rw [aft_from (i := i) (by omega) (fun j hj hji => h j hj (by omega)), Kt.aft_miss hi (h i (by omega) (by omega))]
theorem last_no {l : List Nat} {k : Nat} (hs : l.Pairwise (· < ·)) (hm : k ∈ l) (h : lastIs l k = false) : ∃ i, ∃ h : i + 1 < l.length, l[i] = k ∧ (∀ j (hj : j < l.length), j < i → l[j] ≠ k) ∧ aft l k = some l[i + 1] := by
  obtain ⟨i, hi, e⟩ := List.getElem_of_mem hm
  have hne : ∀ j (hj : j < l.length), j < i → l[j] ≠ k := fun j hj hji => by have := List.pairwise_iff_getElem.1 hs j i hj hi hji; omega
  have h1 : i + 1 < l.length := by
    by_cases h2 : i + 1 < l.length
    · exact h2
    · exfalso
      have h3 : l.getLast? = some k := by rw [List.getLast?_eq_getElem?, show l.length - 1 = i by omega, List.getElem?_eq_getElem hi, e]
      unfold lastIs at h
      rw [h3] at h
      simp at h
  exact ⟨i, h1, e, hne, by rw [aft_from hi hne, Kt.aft_hit h1 e]⟩
theorem last_yes {l : List Nat} {k : Nat} (hs : l.Pairwise (· < ·)) (h : lastIs l k = true) : aft l k = none := by
  have h0 : l.getLast? = some k := eq_of_beq h
  have hl : 0 < l.length := by cases l with | nil => cases h0 | cons a b => simp
  have e : l[l.length - 1]'(by omega) = k := by rw [List.getLast?_eq_getElem?, List.getElem?_eq_getElem (by omega)] at h0; exact Option.some.inj h0
  have hne : ∀ j (hj : j < l.length), j < l.length - 1 → l[j] ≠ k := fun j hj hji => by have := List.pairwise_iff_getElem.1 hs j (l.length - 1) hj (by omega) hji; omega
  rw [aft_from (i := l.length - 1) (by omega) hne, Kt.aft_end (by omega)]
set_option maxRecDepth 100000 in
set_option maxHeartbeats 8000000 in
theorem behindRoot (wg w : World) (R : Nat) (u : Value) (ss : List StepD) (s : CS) (k f : Nat) (hp : pFault ss = 0) (hk : k < ss.length) (hpa : ss[k].parent = -1) (h : KAt wg w R u ss s) :
    Calls Tryz.prog 83 #[.pointer (some ⟨R, 0, none⟩), .int .i64 (k : Int)] w fun e w' => (∃ F caps, e = .returned (.func (.func F) #[] caps) ∧ (∀ wx, (callFunc F caps).run Tryz.prog wx = .ok (Next.enter F caps) wx) ∧ NextU wg R u ss f k F caps w') ∧ Below w.heap.size w w' := by
  have hRl := h.lt
  have c0 := h.c0
  have hl : ss.length ≤ 24 := by have := (of_p hp).1; omega
  obtain ⟨gu, cu, kv0, vc0, ve0, eu, hgu, _, _, _, _, d4, _, _, _, _, _⟩ := KAt.cells h hk
  subst eu
  have hgl : gu < w.heap.size := Nat.lt_of_lt_of_le hgu h.bel.size
  have hmf : ∀ (fn : Fn) (first cap : Array Value) (w : World), (Instr.makeFunc fn first cap).run Tryz.prog w = .ok (.func fn first cap) w := fun _ _ _ _ => rfl
  have q1 : (k : Int) < (ss.length : Int) := by omega
  obtain ⟨wB, eB⟩ : ∃ wB, wB = (w.alloc (.cells #[.pointer (some ⟨R, 0, none⟩)] 66)).alloc (.cells #[.int .i64 (k : Int)] 2) := ⟨_, rfl⟩
  have hbB : Below w.heap.size w wB := by rw [eB]; exact ((Below.refl _ w).alloc (Nat.le_refl _) _).alloc (by simp) _
  obtain ⟨b1, eb1⟩ : ∃ b1, b1 = w.heap.size := ⟨_, rfl⟩
  obtain ⟨b2, eb2⟩ : ∃ b2, b2 = w.heap.size + 1 := ⟨_, rfl⟩
  have k1 : wB.heap[b1]? = some (.cells #[.pointer (some ⟨R, 0, none⟩)] 66) := by rw [eB, eb1, Below.heap_alloc _ _ _ (by simp)]; exact Ch.new_blk _ _
  have k2 : wB.heap[b2]? = some (.cells #[.int .i64 (k : Int)] 2) := by rw [eB, eb2]; exact Ch.new_at (by simp) _
  have lb1 : R < b1 := by omega
  have lb2 : R < b2 := by omega
  have lwB : R < wB.heap.size := Nat.lt_of_lt_of_le hRl hbB.size
  obtain ⟨pk, epk⟩ : ∃ pk, pk = ss[k].parent := ⟨_, rfl⟩
  rw [← epk] at d4
  have HS1 : Hid (∀ wx, Below wB.heap.size wB wx → wx.heap[b1]? = some (.cells #[.pointer (some ⟨R, 0, none⟩)] 66) ∧ wx.heap[b2]? = some (.cells #[.int .i64 (k : Int)] 2) ∧ wx.cell? ⟨R, 0, none⟩ = some (.slice (some ⟨gu, 0, none⟩) ss.length cu) ∧ wx.cell? ⟨gu, k * 9 + 4, none⟩ = some (.int .i64 pk)) := hid (fun wx hb => by
    have hb0 := hbB.trans (hb.mono hbB.size)
    have e : ∀ {b o : Nat} {x : Value}, b < w.heap.size → w.cell? ⟨b, o, none⟩ = some x → wx.cell? ⟨b, o, none⟩ = some x := fun hb' hx => (hb0.cell (p := ⟨_, _, none⟩) hb').trans hx
    exact ⟨(hb.block _ (Ch.blk_lt k1)).trans k1, (hb.block _ (Ch.blk_lt k2)).trans k2, e hRl c0, e hgl d4⟩)
  have HS1d := hid (HS1.out wB.drew (Below.refl _ wB).drew)
  have HBB := hid hbB
  have HK := hid h
  obtain ⟨wD, eD⟩ : ∃ wD, wD = wB.drew := ⟨_, rfl⟩
  have HBD : Hid (Below wB.heap.size wB wD) := hid (by rw [eD]; exact (Below.refl _ wB).drew)
  have HWD := hid (HBB.out.trans (HBD.out.mono HBB.out.size))
  have HK1 := hid ((HBD.out.block _ (Ch.blk_lt k1)).trans k1)
  have HK2 := hid ((HBD.out.block _ (Ch.blk_lt k2)).trans k2)
  have lD : R < wD.heap.size := Nat.lt_of_lt_of_le lwB HBD.out.size
  have HX : Hid (∀ s, behindG (go ss f false) (go ss f true) ss k s = stopped s 2) := hid (fun s => Kt.bh0 (by rw [PJ_eq hk]; omega))
  obtain ⟨bpk, ebp⟩ : ∃ bpk, bpk = true := ⟨_, rfl⟩
  have bp : (pk == -1) = bpk := by rw [epk, hpa, ebp]; rfl
  clear epk
  clear h hp c0 d4 hbB k1 k2 hpa
  go_enter Tryz.func83, Tryz.ntmps83
  go_wp2
  rw [← eB, ← eb2, ← eb1]
  clear eB eb1 eb2
  refine wp_region_held_drew (S := fun wx => wx.heap[b1]? = some (.cells #[.pointer (some ⟨R, 0, none⟩)] 66) ∧ wx.heap[b2]? = some (.cells #[.int .i64 (k : Int)] 2) ∧ wx.cell? ⟨R, 0, none⟩ = some (.slice (some ⟨gu, 0, none⟩) ss.length cu) ∧ wx.cell? ⟨gu, k * 9 + 4, none⟩ = some (.int .i64 pk)) (by kernel_rfl) HS1d.out (fun hHeld => ?_)
  refine wpAnyH_take (i := 0) (v := .pointer (some ⟨R, 0, none⟩)) rfl (by kernel_rfl) (by kernel_rfl) (by kernel_rfl) (fun _ _ _ h => h) (Or.inl ⟨by kernel_rfl, by intro w hSw; (try dsimp only at hSw); obtain ⟨h1, h2, h3, h4⟩ := hSw; have t1 := Ch.blk_cell h1 0; have t2 := Ch.blk_cell h2 0; simp only [List.getElem?_toArray, List.getElem?_cons_zero] at t1 t2; clear h1 h2; go_simp⟩) (by assumption) ?_
  simp only [Act.put, List.setIfInBounds_toArray, List.set_cons_zero, List.set_cons_succ]
  refine wpAnyH_take (i := 1) (v := .pointer (some ⟨R, 0, none⟩)) rfl (by kernel_rfl) (by kernel_rfl) (by kernel_rfl) (fun _ _ _ h => h) (Or.inl ⟨by kernel_rfl, by intro w hSw; (try dsimp only at hSw); go_simp⟩) (by assumption) ?_
  simp only [Act.put, List.setIfInBounds_toArray, List.set_cons_zero, List.set_cons_succ]
  refine wpAnyH_take (i := 2) (v := .pointer (some ⟨R, 0, none⟩)) rfl (by kernel_rfl) (by kernel_rfl) (by kernel_rfl) (fun _ _ _ h => h) (Or.inl ⟨by kernel_rfl, by intro w hSw; (try dsimp only at hSw); go_simp⟩) (by assumption) ?_
  simp only [Act.put, List.setIfInBounds_toArray, List.set_cons_zero, List.set_cons_succ]
  refine wpAnyH_take (i := 3) (v := .slice (some ⟨gu, 0, none⟩) ss.length cu) rfl (by kernel_rfl) (by kernel_rfl) (by kernel_rfl) (fun _ _ _ h => h) (Or.inl ⟨by kernel_rfl, by intro w hSw; (try dsimp only at hSw); obtain ⟨h1, h2, h3, h4⟩ := hSw; have t1 := Ch.blk_cell h1 0; have t2 := Ch.blk_cell h2 0; simp only [List.getElem?_toArray, List.getElem?_cons_zero] at t1 t2; clear h1 h2; go_simp⟩) (by assumption) ?_
  simp only [Act.put, List.setIfInBounds_toArray, List.set_cons_zero, List.set_cons_succ]
  refine wpAnyH_take (i := 4) (v := .int .i64 (k : Int)) rfl (by kernel_rfl) (by kernel_rfl) (by kernel_rfl) (fun _ _ _ h => h) (Or.inl ⟨by kernel_rfl, by intro w hSw; (try dsimp only at hSw); obtain ⟨h1, h2, h3, h4⟩ := hSw; have t1 := Ch.blk_cell h1 0; have t2 := Ch.blk_cell h2 0; simp only [List.getElem?_toArray, List.getElem?_cons_zero] at t1 t2; clear h1 h2; go_simp⟩) (by assumption) ?_
  simp only [Act.put, List.setIfInBounds_toArray, List.set_cons_zero, List.set_cons_succ]
  refine wpAnyH_take (i := 5) (v := .pointer (some ⟨gu, k * 9, none⟩)) rfl (by kernel_rfl) (by kernel_rfl) (by kernel_rfl) (fun _ _ _ h => h) (Or.inl ⟨by kernel_rfl, by intro w hSw; (try dsimp only at hSw); go_simp⟩) (by assumption) ?_
  simp only [Act.put, List.setIfInBounds_toArray, List.set_cons_zero, List.set_cons_succ]
  refine wpAnyH_take (i := 6) (v := .pointer (some ⟨gu, k * 9 + 3, none⟩)) rfl (by kernel_rfl) (by kernel_rfl) (by kernel_rfl) (fun _ _ _ h => h) (Or.inl ⟨by kernel_rfl, by intro w hSw; (try dsimp only at hSw); go_simp⟩) (by assumption) ?_
  simp only [Act.put, List.setIfInBounds_toArray, List.set_cons_zero, List.set_cons_succ]
  refine wpAnyH_take (i := 7) (v := .pointer (some ⟨gu, k * 9 + 4, none⟩)) rfl (by kernel_rfl) (by kernel_rfl) (by kernel_rfl) (fun _ _ _ h => h) (Or.inl ⟨by kernel_rfl, by intro w hSw; (try dsimp only at hSw); go_simp⟩) (by assumption) ?_
  simp only [Act.put, List.setIfInBounds_toArray, List.set_cons_zero, List.set_cons_succ]
  refine wpAnyH_take (i := 8) (v := .int .i64 pk) rfl (by kernel_rfl) (by kernel_rfl) (by kernel_rfl) (fun _ _ _ h => h) (Or.inl ⟨by kernel_rfl, by intro w hSw; (try dsimp only at hSw); obtain ⟨h1, h2, h3, h4⟩ := hSw; have t1 := Ch.blk_cell h1 0; have t2 := Ch.blk_cell h2 0; simp only [List.getElem?_toArray, List.getElem?_cons_zero] at t1 t2; clear h1 h2; go_simp⟩) (by assumption) ?_
  simp only [Act.put, List.setIfInBounds_toArray, List.set_cons_zero, List.set_cons_succ]
  refine wpAnyH_take (i := 9) (v := .bool bpk) rfl (by kernel_rfl) (by kernel_rfl) (by kernel_rfl) (fun _ _ _ h => h) (Or.inl ⟨by kernel_rfl, by intro w hSw; (try dsimp only at hSw); go_simp⟩) (by assumption) ?_
  simp only [Act.put, List.setIfInBounds_toArray, List.set_cons_zero, List.set_cons_succ]
  refine wpAnyH_done (by kernel_rfl) ?_ _
  clear hHeld
  simp only [List.getElem_toArray, List.getElem_cons_succ, List.getElem_cons_zero, Act.put, List.setIfInBounds_toArray, List.set_cons_zero, List.set_cons_succ]
  subst ebp
  rw [← eD]
  clear eD
  go_wp2
  go_ret
  refine ⟨⟨_, _, rfl, fun wx => by kernel_rfl, fun um wx s' hok' hK' hR' => ?_⟩, HWD.out⟩
  rw [HX.out]
  exact behind1 wg wx R b1 _ ss s' um hl ((hR'.block _ (Ch.blk_lt HK1.out) (by omega)).trans HK1.out) hK'
set_option maxRecDepth 100000 in
set_option maxHeartbeats 16000000 in
theorem behindUp (wg w : World) (R : Nat) (u : Value) (ss : List StepD) (s : CS) (k p f : Nat) (hp : pFault ss = 0) (hk : k < ss.length) (hpa : ss[k].parent = (p : Int)) (hpn : p < ss.length) (hm : mO ss k ≤ f + 1) (hO : OverU wg R u ss f) (hED : EnterD wg R u ss f) (h : KAt wg w R u ss s) :
    Calls Tryz.prog 83 #[.pointer (some ⟨R, 0, none⟩), .int .i64 (k : Int)] w fun e w' => (∃ F caps, e = .returned (.func (.func F) #[] caps) ∧ (∀ wx, (callFunc F caps).run Tryz.prog wx = .ok (Next.enter F caps) wx) ∧ NextU wg R u ss f k F caps w') ∧ Below w.heap.size w w' := by
  obtain ⟨gu', cu', kv, vc, ve, eu', _, g0, g1, g2, g3, g4, g5, g6, g7, g8, hpc⟩ := KAt.cells h hpn
  obtain ⟨ak, ck, rfl⟩ := hpc.kids.slice
  obtain ⟨ac, cc, rfl⟩ := hpc.cond.slice
  obtain ⟨ae, ce, rfl⟩ := hpc.expr.slice
  have HPC := hid hpc
  have hRl := h.lt
  have c0 := h.c0
  have hl : ss.length ≤ 24 := by have := (of_p hp).1; omega
  obtain ⟨gu, cu, kv0, vc0, ve0, eu, hgu, _, _, _, _, d4, _, _, _, _, _⟩ := KAt.cells h hk
  subst eu
  have hgl : gu < w.heap.size := Nat.lt_of_lt_of_le hgu h.bel.size
  have hmf : ∀ (fn : Fn) (first cap : Array Value) (w : World), (Instr.makeFunc fn first cap).run Tryz.prog w = .ok (.func fn first cap) w := fun _ _ _ _ => rfl
  have q1 : (k : Int) < (ss.length : Int) := by omega
  obtain ⟨wB, eB⟩ : ∃ wB, wB = (w.alloc (.cells #[.pointer (some ⟨R, 0, none⟩)] 66)).alloc (.cells #[.int .i64 (k : Int)] 2) := ⟨_, rfl⟩
  have hbB : Below w.heap.size w wB := by rw [eB]; exact ((Below.refl _ w).alloc (Nat.le_refl _) _).alloc (by simp) _
  obtain ⟨b1, eb1⟩ : ∃ b1, b1 = w.heap.size := ⟨_, rfl⟩
  obtain ⟨b2, eb2⟩ : ∃ b2, b2 = w.heap.size + 1 := ⟨_, rfl⟩
  have k1 : wB.heap[b1]? = some (.cells #[.pointer (some ⟨R, 0, none⟩)] 66) := by rw [eB, eb1, Below.heap_alloc _ _ _ (by simp)]; exact Ch.new_blk _ _
  have k2 : wB.heap[b2]? = some (.cells #[.int .i64 (k : Int)] 2) := by rw [eB, eb2]; exact Ch.new_at (by simp) _
  have lb1 : R < b1 := by omega
  have lb2 : R < b2 := by omega
  have lwB : R < wB.heap.size := Nat.lt_of_lt_of_le hRl hbB.size
  obtain ⟨pk, epk⟩ : ∃ pk, pk = ss[k].parent := ⟨_, rfl⟩
  rw [← epk] at d4
  have HS1 : Hid (∀ wx, Below wB.heap.size wB wx → wx.heap[b1]? = some (.cells #[.pointer (some ⟨R, 0, none⟩)] 66) ∧ wx.heap[b2]? = some (.cells #[.int .i64 (k : Int)] 2) ∧ wx.cell? ⟨R, 0, none⟩ = some (.slice (some ⟨gu, 0, none⟩) ss.length cu) ∧ wx.cell? ⟨gu, k * 9 + 4, none⟩ = some (.int .i64 pk)) := hid (fun wx hb => by
    have hb0 := hbB.trans (hb.mono hbB.size)
    have e : ∀ {b o : Nat} {x : Value}, b < w.heap.size → w.cell? ⟨b, o, none⟩ = some x → wx.cell? ⟨b, o, none⟩ = some x := fun hb' hx => (hb0.cell (p := ⟨_, _, none⟩) hb').trans hx
    exact ⟨(hb.block _ (Ch.blk_lt k1)).trans k1, (hb.block _ (Ch.blk_lt k2)).trans k2, e hRl c0, e hgl d4⟩)
  have HS1d := hid (HS1.out wB.drew (Below.refl _ wB).drew)
  have HBB := hid hbB
  have HK := hid h
  obtain ⟨wD, eD⟩ : ∃ wD, wD = wB.drew := ⟨_, rfl⟩
  have HBD : Hid (Below wB.heap.size wB wD) := hid (by rw [eD]; exact (Below.refl _ wB).drew)
  have HWD := hid (HBB.out.trans (HBD.out.mono HBB.out.size))
  have HK1 := hid ((HBD.out.block _ (Ch.blk_lt k1)).trans k1)
  have HK2 := hid ((HBD.out.block _ (Ch.blk_lt k2)).trans k2)
  have lD : R < wD.heap.size := Nat.lt_of_lt_of_le lwB HBD.out.size
  obtain ⟨rfl, rfl⟩ : gu = gu' ∧ cu = cu' := by cases eu'; exact ⟨rfl, rfl⟩
  clear eu'
  rw [hpa] at epk
  subst epk
  obtain ⟨kd, ekd⟩ : ∃ kd, kd = ss[p].kind := ⟨_, rfl⟩
  rw [← ekd] at g3
  have hpj : (PJ ss k).parent = (p : Int) := by rw [PJ_eq hk]; exact hpa
  have hmem : k ∈ kidsL ss p := kid_mem.2 ⟨hk, hpj⟩
  have hmu : mO ss p ≤ f := by have := Kc.m_up hp hmem; omega
  have hsrt := Kc.kids_sorted ss p
  have HKD := hid (show (PJ ss p).kind = kd by rw [PJ_eq hpn]; exact ekd.symm)
  have HX4 : Hid (kd = 4 → ∀ s, behindG (go ss f false) (go ss f true) ss k s = sided ss f s k p) := hid (fun e s => Kt.bh4 hpj (HKD.out.trans e))
  have HXN : Hid (kd = 1 → lastIs (kidsL ss p) k = true → ∀ s, behindG (go ss f false) (go ss f true) ss k s = go ss f true p s) := hid (fun e e2 s => Kt.bh1n hpj (HKD.out.trans e) (last_yes hsrt e2))
  have HXX : Hid (kd ≠ 4 → kd ≠ 1 → ∀ s, behindG (go ss f false) (go ss f true) ss k s = go ss f true p s) := hid (fun e e2 s => Kt.bhx hpj (by rw [HKD.out]; exact e) (by rw [HKD.out]; exact e2))
  have HXS : Hid (kd = 1 → lastIs (kidsL ss p) k = false → ∃ i, ∃ h : i + 1 < (kidsL ss p).length, (kidsL ss p)[i] = k ∧ (∀ j (hj : j < (kidsL ss p).length), j < i → (kidsL ss p)[j] ≠ k) ∧ (kidsL ss p)[i + 1] < ss.length ∧ mE ss (kidsL ss p)[i + 1] ≤ f ∧ ∀ s, behindG (go ss f false) (go ss f true) ss k s = go ss f false (kidsL ss p)[i + 1] s) := hid (fun e e2 => by
    obtain ⟨i, h1, h2, h3, h4⟩ := last_no hsrt hmem e2
    exact ⟨i, h1, h2, h3, (kid_mem.1 (List.getElem_mem h1)).1, by have := Kc.m_next hp h4; omega, fun s => Kt.bh1s hpj (HKD.out.trans e) h4⟩)
  have HS3 : Hid (∀ wx, Below wD.heap.size wD wx → wx.heap[b1]? = some (.cells #[.pointer (some ⟨R, 0, none⟩)] 66) ∧ wx.heap[b2]? = some (.cells #[.int .i64 (k : Int)] 2) ∧ wx.cell? ⟨R, 0, none⟩ = some (.slice (some ⟨gu, 0, none⟩) ss.length cu) ∧ wx.cell? ⟨gu, k * 9 + 4, none⟩ = some (.int .i64 (p : Int)) ∧ wx.cell? ⟨gu, p * 9, none⟩ = some (.int .i64 (p : Int)) ∧ wx.cell? ⟨gu, p * 9 + 1, none⟩ = some (.int .i64 ((path ss (p + 1)).length : Int)) ∧ wx.cell? ⟨gu, p * 9 + 2, none⟩ = some (.slice ak (kidsL ss p).length ck) ∧ wx.cell? ⟨gu, p * 9 + 3, none⟩ = some (.int .i64 kd) ∧ wx.cell? ⟨gu, p * 9 + 4, none⟩ = some (.int .i64 ss[p].parent) ∧ wx.cell? ⟨gu, p * 9 + 5, none⟩ = some (.string ss[p].name) ∧ wx.cell? ⟨gu, p * 9 + 6, none⟩ = some (.int .i64 ss[p].arg) ∧ wx.cell? ⟨gu, p * 9 + 7, none⟩ = some (.slice ac ss[p].cond.length cc) ∧ wx.cell? ⟨gu, p * 9 + 8, none⟩ = some (.slice ae ss[p].expr.length ce)) := hid (fun wx hb => by
    have hb0 := HWD.out.trans (hb.mono HWD.out.size)
    have e : ∀ {b o : Nat} {x : Value}, b < w.heap.size → w.cell? ⟨b, o, none⟩ = some x → wx.cell? ⟨b, o, none⟩ = some x := fun hb' hx => (hb0.cell (p := ⟨_, _, none⟩) hb').trans hx
    exact ⟨(hb.block _ (Ch.blk_lt HK1.out)).trans HK1.out, (hb.block _ (Ch.blk_lt HK2.out)).trans HK2.out, e hRl c0, e hgl d4, e hgl g0, e hgl g1, e hgl g2, e hgl g3, e hgl g4, e hgl g5, e hgl g6, e hgl g7, e hgl g8⟩)
  have HS3d := hid (HS3.out wD.drew (Below.refl _ wD).drew)
  obtain ⟨bpk, ebp⟩ : ∃ bpk, bpk = false := ⟨_, rfl⟩
  have bp : ((p : Int) == -1) = bpk := by rw [ebp]; exact beq_eq_false_iff_ne.2 (by omega)
  have q2 : (p : Int) < (ss.length : Int) := by omega
  have EKD := hid ekd
  have HP := hid hp
  have HO := hid hO
  have HED := hid hED
  have hk24 : (kidsL ss p).length ≤ 24 := by have := kidsN_le ss ss.length p; unfold kidsL; omega
  clear h hp c0 d4 hbB k1 k2 hpa g0 g1 g2 g3 g4 g5 g6 g7 g8 ekd hO hED hpc hm hsrt hmem hpj
  go_enter Tryz.func83, Tryz.ntmps83
  go_wp2
  rw [← eB, ← eb2, ← eb1]
  clear eB eb1 eb2
  refine wp_region_held_drew (S := fun wx => wx.heap[b1]? = some (.cells #[.pointer (some ⟨R, 0, none⟩)] 66) ∧ wx.heap[b2]? = some (.cells #[.int .i64 (k : Int)] 2) ∧ wx.cell? ⟨R, 0, none⟩ = some (.slice (some ⟨gu, 0, none⟩) ss.length cu) ∧ wx.cell? ⟨gu, k * 9 + 4, none⟩ = some (.int .i64 (p : Int))) (by kernel_rfl) HS1d.out (fun hHeld => ?_)
  refine wpAnyH_take (i := 0) (v := .pointer (some ⟨R, 0, none⟩)) rfl (by kernel_rfl) (by kernel_rfl) (by kernel_rfl) (fun _ _ _ h => h) (Or.inl ⟨by kernel_rfl, by intro w hSw; (try dsimp only at hSw); obtain ⟨h1, h2, h3, h4⟩ := hSw; have t1 := Ch.blk_cell h1 0; have t2 := Ch.blk_cell h2 0; simp only [List.getElem?_toArray, List.getElem?_cons_zero] at t1 t2; clear h1 h2; go_simp⟩) (by assumption) ?_
  simp only [Act.put, List.setIfInBounds_toArray, List.set_cons_zero, List.set_cons_succ]
  refine wpAnyH_take (i := 1) (v := .pointer (some ⟨R, 0, none⟩)) rfl (by kernel_rfl) (by kernel_rfl) (by kernel_rfl) (fun _ _ _ h => h) (Or.inl ⟨by kernel_rfl, by intro w hSw; (try dsimp only at hSw); go_simp⟩) (by assumption) ?_
  simp only [Act.put, List.setIfInBounds_toArray, List.set_cons_zero, List.set_cons_succ]
  refine wpAnyH_take (i := 2) (v := .pointer (some ⟨R, 0, none⟩)) rfl (by kernel_rfl) (by kernel_rfl) (by kernel_rfl) (fun _ _ _ h => h) (Or.inl ⟨by kernel_rfl, by intro w hSw; (try dsimp only at hSw); go_simp⟩) (by assumption) ?_
  simp only [Act.put, List.setIfInBounds_toArray, List.set_cons_zero, List.set_cons_succ]
  refine wpAnyH_take (i := 3) (v := .slice (some ⟨gu, 0, none⟩) ss.length cu) rfl (by kernel_rfl) (by kernel_rfl) (by kernel_rfl) (fun _ _ _ h => h) (Or.inl ⟨by kernel_rfl, by intro w hSw; (try dsimp only at hSw); obtain ⟨h1, h2, h3, h4⟩ := hSw; have t1 := Ch.blk_cell h1 0; have t2 := Ch.blk_cell h2 0; simp only [List.getElem?_toArray, List.getElem?_cons_zero] at t1 t2; clear h1 h2; go_simp⟩) (by assumption) ?_
  simp only [Act.put, List.setIfInBounds_toArray, List.set_cons_zero, List.set_cons_succ]
  refine wpAnyH_take (i := 4) (v := .int .i64 (k : Int)) rfl (by kernel_rfl) (by kernel_rfl) (by kernel_rfl) (fun _ _ _ h => h) (Or.inl ⟨by kernel_rfl, by intro w hSw; (try dsimp only at hSw); obtain ⟨h1, h2, h3, h4⟩ := hSw; have t1 := Ch.blk_cell h1 0; have t2 := Ch.blk_cell h2 0; simp only [List.getElem?_toArray, List.getElem?_cons_zero] at t1 t2; clear h1 h2; go_simp⟩) (by assumption) ?_
  simp only [Act.put, List.setIfInBounds_toArray, List.set_cons_zero, List.set_cons_succ]
  refine wpAnyH_take (i := 5) (v := .pointer (some ⟨gu, k * 9, none⟩)) rfl (by kernel_rfl) (by kernel_rfl) (by kernel_rfl) (fun _ _ _ h => h) (Or.inl ⟨by kernel_rfl, by intro w hSw; (try dsimp only at hSw); go_simp⟩) (by assumption) ?_
  simp only [Act.put, List.setIfInBounds_toArray, List.set_cons_zero, List.set_cons_succ]
  refine wpAnyH_take (i := 6) (v := .pointer (some ⟨gu, k * 9 + 3, none⟩)) rfl (by kernel_rfl) (by kernel_rfl) (by kernel_rfl) (fun _ _ _ h => h) (Or.inl ⟨by kernel_rfl, by intro w hSw; (try dsimp only at hSw); go_simp⟩) (by assumption) ?_
  simp only [Act.put, List.setIfInBounds_toArray, List.set_cons_zero, List.set_cons_succ]
  refine wpAnyH_take (i := 7) (v := .pointer (some ⟨gu, k * 9 + 4, none⟩)) rfl (by kernel_rfl) (by kernel_rfl) (by kernel_rfl) (fun _ _ _ h => h) (Or.inl ⟨by kernel_rfl, by intro w hSw; (try dsimp only at hSw); go_simp⟩) (by assumption) ?_
  simp only [Act.put, List.setIfInBounds_toArray, List.set_cons_zero, List.set_cons_succ]
  refine wpAnyH_take (i := 8) (v := .int .i64 (p : Int)) rfl (by kernel_rfl) (by kernel_rfl) (by kernel_rfl) (fun _ _ _ h => h) (Or.inl ⟨by kernel_rfl, by intro w hSw; (try dsimp only at hSw); obtain ⟨h1, h2, h3, h4⟩ := hSw; have t1 := Ch.blk_cell h1 0; have t2 := Ch.blk_cell h2 0; simp only [List.getElem?_toArray, List.getElem?_cons_zero] at t1 t2; clear h1 h2; go_simp⟩) (by assumption) ?_
  simp only [Act.put, List.setIfInBounds_toArray, List.set_cons_zero, List.set_cons_succ]
  refine wpAnyH_take (i := 9) (v := .bool bpk) rfl (by kernel_rfl) (by kernel_rfl) (by kernel_rfl) (fun _ _ _ h => h) (Or.inl ⟨by kernel_rfl, by intro w hSw; (try dsimp only at hSw); go_simp⟩) (by assumption) ?_
  simp only [Act.put, List.setIfInBounds_toArray, List.set_cons_zero, List.set_cons_succ]
  refine wpAnyH_done (by kernel_rfl) ?_ _
  clear hHeld
  simp only [List.getElem_toArray, List.getElem_cons_succ, List.getElem_cons_zero, Act.put, List.setIfInBounds_toArray, List.set_cons_zero, List.set_cons_succ]
  subst ebp
  rw [← eD]
  clear eD
  go_wp2
  refine wp_region_held_drew (S := fun wx => wx.heap[b1]? = some (.cells #[.pointer (some ⟨R, 0, none⟩)] 66) ∧ wx.heap[b2]? = some (.cells #[.int .i64 (k : Int)] 2) ∧ wx.cell? ⟨R, 0, none⟩ = some (.slice (some ⟨gu, 0, none⟩) ss.length cu) ∧ wx.cell? ⟨gu, k * 9 + 4, none⟩ = some (.int .i64 (p : Int)) ∧ wx.cell? ⟨gu, p * 9, none⟩ = some (.int .i64 (p : Int)) ∧ wx.cell? ⟨gu, p * 9 + 1, none⟩ = some (.int .i64 ((path ss (p + 1)).length : Int)) ∧ wx.cell? ⟨gu, p * 9 + 2, none⟩ = some (.slice ak (kidsL ss p).length ck) ∧ wx.cell? ⟨gu, p * 9 + 3, none⟩ = some (.int .i64 kd) ∧ wx.cell? ⟨gu, p * 9 + 4, none⟩ = some (.int .i64 ss[p].parent) ∧ wx.cell? ⟨gu, p * 9 + 5, none⟩ = some (.string ss[p].name) ∧ wx.cell? ⟨gu, p * 9 + 6, none⟩ = some (.int .i64 ss[p].arg) ∧ wx.cell? ⟨gu, p * 9 + 7, none⟩ = some (.slice ac ss[p].cond.length cc) ∧ wx.cell? ⟨gu, p * 9 + 8, none⟩ = some (.slice ae ss[p].expr.length ce)) (by kernel_rfl) HS3d.out (fun hHeld => ?_)
  refine wpAnyH_take (i := 0) (v := .pointer (some ⟨R, 0, none⟩)) rfl (by kernel_rfl) (by kernel_rfl) (by kernel_rfl) (fun _ _ _ h => h) (Or.inl ⟨by kernel_rfl, by intro w hSw; (try dsimp only at hSw); obtain ⟨h1, h2, h3, h4, s0, s1, s2, s3, s4, s5, s6, s7, s8⟩ := hSw; have t1 := Ch.blk_cell h1 0; have t2 := Ch.blk_cell h2 0; simp only [List.getElem?_toArray, List.getElem?_cons_zero] at t1 t2; clear h1 h2; go_simp⟩) (by assumption) ?_
  simp only [Act.put, List.setIfInBounds_toArray, List.set_cons_zero, List.set_cons_succ]
  refine wpAnyH_take (i := 1) (v := .pointer (some ⟨R, 0, none⟩)) rfl (by kernel_rfl) (by kernel_rfl) (by kernel_rfl) (fun _ _ _ h => h) (Or.inl ⟨by kernel_rfl, by intro w hSw; (try dsimp only at hSw); go_simp⟩) (by assumption) ?_
  simp only [Act.put, List.setIfInBounds_toArray, List.set_cons_zero, List.set_cons_succ]
  refine wpAnyH_take (i := 2) (v := .pointer (some ⟨R, 0, none⟩)) rfl (by kernel_rfl) (by kernel_rfl) (by kernel_rfl) (fun _ _ _ h => h) (Or.inl ⟨by kernel_rfl, by intro w hSw; (try dsimp only at hSw); go_simp⟩) (by assumption) ?_
  simp only [Act.put, List.setIfInBounds_toArray, List.set_cons_zero, List.set_cons_succ]
  refine wpAnyH_take (i := 3) (v := .slice (some ⟨gu, 0, none⟩) ss.length cu) rfl (by kernel_rfl) (by kernel_rfl) (by kernel_rfl) (fun _ _ _ h => h) (Or.inl ⟨by kernel_rfl, by intro w hSw; (try dsimp only at hSw); obtain ⟨h1, h2, h3, h4, s0, s1, s2, s3, s4, s5, s6, s7, s8⟩ := hSw; have t1 := Ch.blk_cell h1 0; have t2 := Ch.blk_cell h2 0; simp only [List.getElem?_toArray, List.getElem?_cons_zero] at t1 t2; clear h1 h2; go_simp⟩) (by assumption) ?_
  simp only [Act.put, List.setIfInBounds_toArray, List.set_cons_zero, List.set_cons_succ]
  refine wpAnyH_take (i := 4) (v := .pointer (some ⟨R, 0, none⟩)) rfl (by kernel_rfl) (by kernel_rfl) (by kernel_rfl) (fun _ _ _ h => h) (Or.inl ⟨by kernel_rfl, by intro w hSw; (try dsimp only at hSw); obtain ⟨h1, h2, h3, h4, s0, s1, s2, s3, s4, s5, s6, s7, s8⟩ := hSw; have t1 := Ch.blk_cell h1 0; have t2 := Ch.blk_cell h2 0; simp only [List.getElem?_toArray, List.getElem?_cons_zero] at t1 t2; clear h1 h2; go_simp⟩) (by assumption) ?_
  simp only [Act.put, List.setIfInBounds_toArray, List.set_cons_zero, List.set_cons_succ]
  refine wpAnyH_take (i := 5) (v := .pointer (some ⟨R, 0, none⟩)) rfl (by kernel_rfl) (by kernel_rfl) (by kernel_rfl) (fun _ _ _ h => h) (Or.inl ⟨by kernel_rfl, by intro w hSw; (try dsimp only at hSw); go_simp⟩) (by assumption) ?_
  simp only [Act.put, List.setIfInBounds_toArray, List.set_cons_zero, List.set_cons_succ]
  refine wpAnyH_take (i := 6) (v := .pointer (some ⟨R, 0, none⟩)) rfl (by kernel_rfl) (by kernel_rfl) (by kernel_rfl) (fun _ _ _ h => h) (Or.inl ⟨by kernel_rfl, by intro w hSw; (try dsimp only at hSw); go_simp⟩) (by assumption) ?_
  simp only [Act.put, List.setIfInBounds_toArray, List.set_cons_zero, List.set_cons_succ]
  refine wpAnyH_take (i := 7) (v := .slice (some ⟨gu, 0, none⟩) ss.length cu) rfl (by kernel_rfl) (by kernel_rfl) (by kernel_rfl) (fun _ _ _ h => h) (Or.inl ⟨by kernel_rfl, by intro w hSw; (try dsimp only at hSw); obtain ⟨h1, h2, h3, h4, s0, s1, s2, s3, s4, s5, s6, s7, s8⟩ := hSw; have t1 := Ch.blk_cell h1 0; have t2 := Ch.blk_cell h2 0; simp only [List.getElem?_toArray, List.getElem?_cons_zero] at t1 t2; clear h1 h2; go_simp⟩) (by assumption) ?_
  simp only [Act.put, List.setIfInBounds_toArray, List.set_cons_zero, List.set_cons_succ]
  refine wpAnyH_take (i := 8) (v := .int .i64 (k : Int)) rfl (by kernel_rfl) (by kernel_rfl) (by kernel_rfl) (fun _ _ _ h => h) (Or.inl ⟨by kernel_rfl, by intro w hSw; (try dsimp only at hSw); obtain ⟨h1, h2, h3, h4, s0, s1, s2, s3, s4, s5, s6, s7, s8⟩ := hSw; have t1 := Ch.blk_cell h1 0; have t2 := Ch.blk_cell h2 0; simp only [List.getElem?_toArray, List.getElem?_cons_zero] at t1 t2; clear h1 h2; go_simp⟩) (by assumption) ?_
  simp only [Act.put, List.setIfInBounds_toArray, List.set_cons_zero, List.set_cons_succ]
  refine wpAnyH_take (i := 9) (v := .pointer (some ⟨gu, k * 9, none⟩)) rfl (by kernel_rfl) (by kernel_rfl) (by kernel_rfl) (fun _ _ _ h => h) (Or.inl ⟨by kernel_rfl, by intro w hSw; (try dsimp only at hSw); go_simp⟩) (by assumption) ?_
  simp only [Act.put, List.setIfInBounds_toArray, List.set_cons_zero, List.set_cons_succ]
  refine wpAnyH_take (i := 10) (v := .pointer (some ⟨gu, k * 9 + 3, none⟩)) rfl (by kernel_rfl) (by kernel_rfl) (by kernel_rfl) (fun _ _ _ h => h) (Or.inl ⟨by kernel_rfl, by intro w hSw; (try dsimp only at hSw); go_simp⟩) (by assumption) ?_
  simp only [Act.put, List.setIfInBounds_toArray, List.set_cons_zero, List.set_cons_succ]
  refine wpAnyH_take (i := 11) (v := .pointer (some ⟨gu, k * 9 + 4, none⟩)) rfl (by kernel_rfl) (by kernel_rfl) (by kernel_rfl) (fun _ _ _ h => h) (Or.inl ⟨by kernel_rfl, by intro w hSw; (try dsimp only at hSw); go_simp⟩) (by assumption) ?_
  simp only [Act.put, List.setIfInBounds_toArray, List.set_cons_zero, List.set_cons_succ]
  refine wpAnyH_take (i := 12) (v := .int .i64 (p : Int)) rfl (by kernel_rfl) (by kernel_rfl) (by kernel_rfl) (fun _ _ _ h => h) (Or.inl ⟨by kernel_rfl, by intro w hSw; (try dsimp only at hSw); obtain ⟨h1, h2, h3, h4, s0, s1, s2, s3, s4, s5, s6, s7, s8⟩ := hSw; have t1 := Ch.blk_cell h1 0; have t2 := Ch.blk_cell h2 0; simp only [List.getElem?_toArray, List.getElem?_cons_zero] at t1 t2; clear h1 h2; go_simp⟩) (by assumption) ?_
  simp only [Act.put, List.setIfInBounds_toArray, List.set_cons_zero, List.set_cons_succ]
  refine wpAnyH_take (i := 13) (v := .pointer (some ⟨gu, p * 9, none⟩)) rfl (by kernel_rfl) (by kernel_rfl) (by kernel_rfl) (fun _ _ _ h => h) (Or.inl ⟨by kernel_rfl, by intro w hSw; (try dsimp only at hSw); go_simp⟩) (by assumption) ?_
  simp only [Act.put, List.setIfInBounds_toArray, List.set_cons_zero, List.set_cons_succ]
  refine wpAnyH_take (i := 14) (v := .agg #[.int .i64 (p : Int), .int .i64 ((path ss (p + 1)).length : Int), .slice ak (kidsL ss p).length ck, .int .i64 kd, .int .i64 ss[p].parent, .string ss[p].name, .int .i64 ss[p].arg, .slice ac ss[p].cond.length cc, .slice ae ss[p].expr.length ce]) rfl (by kernel_rfl) (by kernel_rfl) (by kernel_rfl) (fun _ _ _ h => h) (Or.inl ⟨by kernel_rfl, by intro w hSw; (try dsimp only at hSw); obtain ⟨h1, h2, h3, h4, s0, s1, s2, s3, s4, s5, s6, s7, s8⟩ := hSw; have t1 := Ch.blk_cell h1 0; have t2 := Ch.blk_cell h2 0; simp only [List.getElem?_toArray, List.getElem?_cons_zero] at t1 t2; clear h1 h2; go_simp⟩) (by assumption) ?_
  simp only [Act.put, List.setIfInBounds_toArray, List.set_cons_zero, List.set_cons_succ]
  refine wpAnyH_ready (rs := [15]) (by kernel_rfl) (by simp) ?_
  refine AllReadyH.cons rfl (fun K hK => ?_) AllReadyH.nil
  go_simp
  obtain ⟨wA, eA⟩ : ∃ wA, wA = (wD.alloc (.cells #[.int .i64 0, .int .i64 0, .slice none 0 0, .int .i64 0, .int .i64 0, .string ⟨#[]⟩, .int .i64 0, .slice none 0 0, .slice none 0 0] 86)).drew := ⟨_, rfl⟩
  obtain ⟨b3, eb3⟩ : ∃ b3, b3 = wD.heap.size := ⟨_, rfl⟩
  have hbA : Below wD.heap.size wD wA := by rw [eA]; exact ((Below.refl _ wD).alloc (Nat.le_refl _) _).drew
  have hsA : wA.heap[b3]? = some (.cells #[.int .i64 0, .int .i64 0, .slice none 0 0, .int .i64 0, .int .i64 0, .string ⟨#[]⟩, .int .i64 0, .slice none 0 0, .slice none 0 0] 86) := by rw [eA, eb3]; exact Ch.new_blk _ _
  have hSA := HS3.out wA hbA
  rw [← eA, ← eb3]
  clear eA
  have lR3 : R < b3 := by omega
  have HEB3 := hid eb3
  clear eb3
  refine hK.out _ _ hSA (fun hHeld => ?_)
  clear hK K
  try simp only [Act.put, List.setIfInBounds_toArray, List.set_cons_zero, List.set_cons_succ]
  have t0 := Ch.blk_free hsA 0
  have t1 := Ch.blk_free hsA 1
  have t2 := Ch.blk_free hsA 2
  have t3 := Ch.blk_free hsA 3
  have t4 := Ch.blk_free hsA 4
  have t5 := Ch.blk_free hsA 5
  have t6 := Ch.blk_free hsA 6
  have t7 := Ch.blk_free hsA 7
  have t8 := Ch.blk_free hsA 8
  have z0 := Ch.blk_cell hsA 0
  have z1 := Ch.blk_cell hsA 1
  have z2 := Ch.blk_cell hsA 2
  have z3 := Ch.blk_cell hsA 3
  have z4 := Ch.blk_cell hsA 4
  have z5 := Ch.blk_cell hsA 5
  have z6 := Ch.blk_cell hsA 6
  have z7 := Ch.blk_cell hsA 7
  have z8 := Ch.blk_cell hsA 8
  have lB : b3 < wA.heap.size := Ch.blk_lt hsA
  obtain ⟨wS, eS⟩ : ∃ wS, wS = (((((((((wA.setCell ⟨b3, 0, none⟩ (.int .i64 (p : Int))).setCell ⟨b3, 1, none⟩ (.int .i64 ((path ss (p + 1)).length : Int))).setCell ⟨b3, 2, none⟩ (.slice ak (kidsL ss p).length ck)).setCell ⟨b3, 3, none⟩ (.int .i64 kd)).setCell ⟨b3, 4, none⟩ (.int .i64 ss[p].parent)).setCell ⟨b3, 5, none⟩ (.string ss[p].name)).setCell ⟨b3, 6, none⟩ (.int .i64 ss[p].arg)).setCell ⟨b3, 7, none⟩ (.slice ac ss[p].cond.length cc)).setCell ⟨b3, 8, none⟩ (.slice ae ss[p].expr.length ce)) := ⟨_, rfl⟩
  have hbS : Below wD.heap.size wD wS := by rw [eS]; exact (((((((((hbA.setCell (p := ⟨b3, 0, none⟩) (Nat.le_of_eq HEB3.out.symm) _).setCell (p := ⟨b3, 1, none⟩) (Nat.le_of_eq HEB3.out.symm) _).setCell (p := ⟨b3, 2, none⟩) (Nat.le_of_eq HEB3.out.symm) _).setCell (p := ⟨b3, 3, none⟩) (Nat.le_of_eq HEB3.out.symm) _).setCell (p := ⟨b3, 4, none⟩) (Nat.le_of_eq HEB3.out.symm) _).setCell (p := ⟨b3, 5, none⟩) (Nat.le_of_eq HEB3.out.symm) _).setCell (p := ⟨b3, 6, none⟩) (Nat.le_of_eq HEB3.out.symm) _).setCell (p := ⟨b3, 7, none⟩) (Nat.le_of_eq HEB3.out.symm) _).setCell (p := ⟨b3, 8, none⟩) (Nat.le_of_eq HEB3.out.symm) _)
  have hsS0 : wS.heap[b3]? = some (.cells #[.int .i64 (p : Int), .int .i64 ((path ss (p + 1)).length : Int), .slice ak (kidsL ss p).length ck, .int .i64 kd, .int .i64 ss[p].parent, .string ss[p].name, .int .i64 ss[p].arg, .slice ac ss[p].cond.length cc, .slice ae ss[p].expr.length ce] 86) := by rw [eS]; have h9 := (Ch.blk_set (i := 8) (Ch.blk_set (i := 7) (Ch.blk_set (i := 6) (Ch.blk_set (i := 5) (Ch.blk_set (i := 4) (Ch.blk_set (i := 3) (Ch.blk_set (i := 2) (Ch.blk_set (i := 1) (Ch.blk_set (i := 0) hsA (.int .i64 (p : Int))) (.int .i64 ((path ss (p + 1)).length : Int))) (.slice ak (kidsL ss p).length ck)) (.int .i64 kd)) (.int .i64 ss[p].parent)) (.string ss[p].name)) (.int .i64 ss[p].arg)) (.slice ac ss[p].cond.length cc)) (.slice ae ss[p].expr.length ce)); simpa only [List.setIfInBounds_toArray, List.set_cons_zero, List.set_cons_succ] using h9
  have hsS : PBlk wS b3 #[.int .i64 (p : Int), .int .i64 ((path ss (p + 1)).length : Int), .slice ak (kidsL ss p).length ck, .int .i64 kd, .int .i64 ss[p].parent, .string ss[p].name, .int .i64 ss[p].arg, .slice ac ss[p].cond.length cc, .slice ae ss[p].expr.length ce] := hsS0
  clear hsS0
  have hSS := HS3.out wS hbS
  refine wpAnyH_ready (rs := [16]) (by kernel_rfl) (by simp) ?_
  refine AllReadyH.cons rfl (fun K hK => ?_) AllReadyH.nil
  go_simp
  rw [← eS]
  clear eS
  refine hK.out _ _ hSS (fun hHeld => ?_)
  clear hK K
  try simp only [Act.put, List.setIfInBounds_toArray, List.set_cons_zero, List.set_cons_succ]
  refine wpAnyH_done (by kernel_rfl) ?_ _
  clear hHeld hSA hsA
  clear t0 z0 t1 z1 t2 z2 t3 z3 t4 z4 t5 z5 t6 z6 t7 z7 t8 z8

  try simp only [List.getElem_toArray, List.getElem_cons_succ, List.getElem_cons_zero, Act.put, List.setIfInBounds_toArray, List.set_cons_zero, List.set_cons_succ]
  have HWS := hid (HWD.out.trans (hbS.mono HWD.out.size))
  have HK1s := hid ((hbS.block _ (Ch.blk_lt HK1.out)).trans HK1.out)
  have HK2s := hid ((hbS.block _ (Ch.blk_lt HK2.out)).trans HK2.out)
  have HBS := hid hsS
  have d0 := hsS.cell 0
  have d1 := hsS.cell 1
  have d2 := hsS.cell 2
  have d3 := hsS.cell 3
  have e2 := Ch.blk_cell HK2s.out 0
  have e1 := Ch.blk_cell HK1s.out 0
  simp only [List.getElem?_toArray, List.getElem?_cons_succ, List.getElem?_cons_zero] at d0 d1 d2 d3 e1 e2
  have l3 : b3 < wS.heap.size := Ch.blk_lt hsS
  clear hbA hbS hsS hSS
  by_cases hk4 : kd = 4
  · have b4 : (kd == 4) = true := by simp [hk4]
    have HX := hid (HX4.out hk4)
    clear hk4
    go_wp2
    go_ret
    refine ⟨⟨_, _, rfl, fun wx => by kernel_rfl, fun um wx s' hok' hK' hR' => ?_⟩, HWS.out⟩
    rw [HX.out]
    have h3 := (hR'.block _ (Ch.blk_lt HBS.out) (by omega)).trans HBS.out
    rw [EKD.out] at h3
    exact behind2 wg wx R b1 b2 b3 _ ss s' k p f _ _ _ um HP.out HO.out hk hpn hmu hok' ((hR'.block _ (Ch.blk_lt HK1s.out) (by omega)).trans HK1s.out) ((hR'.block _ (Ch.blk_lt HK2s.out) (by omega)).trans HK2s.out) h3 HPC.out hK'
  · have b4 : (kd == 4) = false := beq_eq_false_iff_ne.2 hk4
    by_cases hk1 : kd = 1
    · have b5 : (kd == 1) = true := by simp [hk1]
      have HLK := hid (hasLastKid (p : Int) ((path ss (p + 1)).length : Int) _ (kidsL ss p) k wS hk24 (HPC.out.below (HK.out.bel.trans (HWS.out.mono HK.out.bel.size))).kids)
      have HXN1 := hid (HXN.out hk1)
      have HXS1 := hid (HXS.out hk1)
      clear hk1 hk4
      cases hlast : lastIs (kidsL ss p) k
      · obtain ⟨i, hi1, hik, hne, hjl, hmj, hX⟩ := HXS1.out hlast
        rw [hlast] at HLK
        obtain ⟨bk, ck', ekv, hbk, _, _, hcell⟩ := Kc.kids_at HPC.out.kids (by omega)
        cases ekv
        have hcj := hcell (i + 1) hi1
        have HX := hid hX
        have HMJ := hid hmj
        have HIXA : Hid (∀ wx, Below wg.heap.size wg wx → Calls Tryz.prog 118 #[.slice (some ⟨bk, 0, none⟩) (kidsL ss p).length ck, .int .i64 (k : Int)] wx fun e w' => e = .returned (.int .i64 (i : Int)) ∧ w' = wx) := hid (fun wx hb => indexU (kidsL ss p) _ k i wx hk24 (HPC.out.kids.below hb) (by omega) hik hne)
        clear HXN1 HXS1 HXS HXN hlast hcell hX hmj hne hik
        generalize (kidsL ss p)[i + 1] = j at *
        generalize (kidsL ss p).length = nk at *
        have HWG := hid (HK.out.bel.trans (HWS.out.mono HK.out.bel.size))
        go_wp2_with (go_at_call 117; refine HLK.out.mono ?_; rintro e w4 ⟨rfl, hb4⟩)
        have HB4 := hid hb4
        have HW4 := hid (HWS.out.trans (hb4.mono HWS.out.size))
        have HG4 := hid (HWG.out.trans (hb4.mono HWG.out.size))
        have HS7 : Hid (∀ wx, Below w4.heap.size w4 wx → wx.heap[b1]? = some (.cells #[.pointer (some ⟨R, 0, none⟩)] 66) ∧ wx.heap[b2]? = some (.cells #[.int .i64 (k : Int)] 2) ∧ PBlk wx b3 #[.int .i64 (p : Int), .int .i64 ((path ss (p + 1)).length : Int), .slice (some ⟨bk, 0, none⟩) nk ck, .int .i64 kd, .int .i64 ss[p].parent, .string ss[p].name, .int .i64 ss[p].arg, .slice ac ss[p].cond.length cc, .slice ae ss[p].expr.length ce] ∧ wx.cell? ⟨bk, i + 1, none⟩ = some (.int .i64 (j : Int))) := hid (fun wx hb => by
          have hb0 := hb4.trans (hb.mono hb4.size)
          exact ⟨(hb0.block _ (Ch.blk_lt HK1s.out)).trans HK1s.out, (hb0.block _ (Ch.blk_lt HK2s.out)).trans HK2s.out, (hb0.block _ l3).trans HBS.out, ((HG4.out.trans (hb.mono HG4.out.size)).cell (p := ⟨bk, i + 1, none⟩) hbk).trans hcj⟩)
        have HBd := hid (Below.refl w4.heap.size w4).drew
        have HS7d := hid (HS7.out w4.drew HBd.out)
        have HIX := hid (HIXA.out w4.drew (HG4.out.trans (HBd.out.mono HG4.out.size)))
        have HEN := hid (entering wg w4.drew R _ ss s j hl hjl (HK.out.below (HW4.out.trans (HBd.out.mono HW4.out.size))))
        have l4 : b3 < w4.heap.size := Nat.lt_of_lt_of_le l3 hb4.size
        have hbk4 : bk < w4.heap.size := Nat.lt_of_lt_of_le hbk HG4.out.size
        have i1 : (i : Int) < 23 := by omega
        have i2 : ((i : Int) + 1) < (nk : Int) := by omega
        have i3 : ¬ ((i : Int) + 1 < 0) := by omega
        have iw : IntKind.i64.wrap ((i : Int) + 1) = (i : Int) + 1 := IntWalk.i64_in _ (by omega)
        have it : ((i : Int) + 1).toNat = i + 1 := by omega
        clear hb4 hcj d0 d1 d2 d3 e1 e2 HIXA
        refine wp_region_held_drew (S := fun wx => wx.heap[b1]? = some (.cells #[.pointer (some ⟨R, 0, none⟩)] 66) ∧ wx.heap[b2]? = some (.cells #[.int .i64 (k : Int)] 2) ∧ PBlk wx b3 #[.int .i64 (p : Int), .int .i64 ((path ss (p + 1)).length : Int), .slice (some ⟨bk, 0, none⟩) nk ck, .int .i64 kd, .int .i64 ss[p].parent, .string ss[p].name, .int .i64 ss[p].arg, .slice ac ss[p].cond.length cc, .slice ae ss[p].expr.length ce] ∧ wx.cell? ⟨bk, i + 1, none⟩ = some (.int .i64 (j : Int))) (by kernel_rfl) HS7d.out (fun hHeld => ?_)
        refine wpAnyH_take (i := 0) (v := .pointer (some ⟨R, 0, none⟩)) rfl (by kernel_rfl) (by kernel_rfl) (by kernel_rfl) (fun _ _ _ h => h) (Or.inl ⟨by kernel_rfl, by intro w hSw; (try dsimp only at hSw); obtain ⟨h1, h2, h3, h4⟩ := hSw; have t1 := Ch.blk_cell h1 0; have t2 := Ch.blk_cell h2 0; have t3 := PBlk.cell h3 2; simp only [List.getElem?_toArray, List.getElem?_cons_succ, List.getElem?_cons_zero] at t1 t2 t3; clear h1 h2 h3; go_simp⟩) (by assumption) ?_
        simp only [Act.put, List.setIfInBounds_toArray, List.set_cons_zero, List.set_cons_succ]
        refine wpAnyH_take (i := 1) (v := .pointer (some ⟨b3, 0, none⟩)) rfl (by kernel_rfl) (by kernel_rfl) (by kernel_rfl) (fun _ _ _ h => h) (Or.inl ⟨by kernel_rfl, by intro w hSw; (try dsimp only at hSw); go_simp⟩) (by assumption) ?_
        simp only [Act.put, List.setIfInBounds_toArray, List.set_cons_zero, List.set_cons_succ]
        refine wpAnyH_take (i := 2) (v := .pointer (some ⟨b3, 2, none⟩)) rfl (by kernel_rfl) (by kernel_rfl) (by kernel_rfl) (fun _ _ _ h => h) (Or.inl ⟨by kernel_rfl, by intro w hSw; (try dsimp only at hSw); go_simp⟩) (by assumption) ?_
        simp only [Act.put, List.setIfInBounds_toArray, List.set_cons_zero, List.set_cons_succ]
        refine wpAnyH_take (i := 3) (v := .slice (some ⟨bk, 0, none⟩) nk ck) rfl (by kernel_rfl) (by kernel_rfl) (by kernel_rfl) (fun _ _ _ h => h) (Or.inl ⟨by kernel_rfl, by intro w hSw; (try dsimp only at hSw); obtain ⟨h1, h2, h3, h4⟩ := hSw; have t1 := Ch.blk_cell h1 0; have t2 := Ch.blk_cell h2 0; have t3 := PBlk.cell h3 2; simp only [List.getElem?_toArray, List.getElem?_cons_succ, List.getElem?_cons_zero] at t1 t2 t3; clear h1 h2 h3; go_simp⟩) (by assumption) ?_
        simp only [Act.put, List.setIfInBounds_toArray, List.set_cons_zero, List.set_cons_succ]
        refine wpAnyH_take (i := 4) (v := .pointer (some ⟨b3, 0, none⟩)) rfl (by kernel_rfl) (by kernel_rfl) (by kernel_rfl) (fun _ _ _ h => h) (Or.inl ⟨by kernel_rfl, by intro w hSw; (try dsimp only at hSw); go_simp⟩) (by assumption) ?_
        simp only [Act.put, List.setIfInBounds_toArray, List.set_cons_zero, List.set_cons_succ]
        refine wpAnyH_take (i := 5) (v := .pointer (some ⟨b3, 2, none⟩)) rfl (by kernel_rfl) (by kernel_rfl) (by kernel_rfl) (fun _ _ _ h => h) (Or.inl ⟨by kernel_rfl, by intro w hSw; (try dsimp only at hSw); go_simp⟩) (by assumption) ?_
        simp only [Act.put, List.setIfInBounds_toArray, List.set_cons_zero, List.set_cons_succ]
        refine wpAnyH_take (i := 6) (v := .slice (some ⟨bk, 0, none⟩) nk ck) rfl (by kernel_rfl) (by kernel_rfl) (by kernel_rfl) (fun _ _ _ h => h) (Or.inl ⟨by kernel_rfl, by intro w hSw; (try dsimp only at hSw); obtain ⟨h1, h2, h3, h4⟩ := hSw; have t1 := Ch.blk_cell h1 0; have t2 := Ch.blk_cell h2 0; have t3 := PBlk.cell h3 2; simp only [List.getElem?_toArray, List.getElem?_cons_succ, List.getElem?_cons_zero] at t1 t2 t3; clear h1 h2 h3; go_simp⟩) (by assumption) ?_
        simp only [Act.put, List.setIfInBounds_toArray, List.set_cons_zero, List.set_cons_succ]
        refine wpAnyH_take (i := 7) (v := .int .i64 (k : Int)) rfl (by kernel_rfl) (by kernel_rfl) (by kernel_rfl) (fun _ _ _ h => h) (Or.inl ⟨by kernel_rfl, by intro w hSw; (try dsimp only at hSw); obtain ⟨h1, h2, h3, h4⟩ := hSw; have t1 := Ch.blk_cell h1 0; have t2 := Ch.blk_cell h2 0; have t3 := PBlk.cell h3 2; simp only [List.getElem?_toArray, List.getElem?_cons_succ, List.getElem?_cons_zero] at t1 t2 t3; clear h1 h2 h3; go_simp⟩) (by assumption) ?_
        simp only [Act.put, List.setIfInBounds_toArray, List.set_cons_zero, List.set_cons_succ]
        refine wpAnyH_ready (rs := [8]) (by kernel_rfl) (by simp) ?_
        refine AllReadyH.cons rfl (fun K hK => ?_) AllReadyH.nil
        go_simp
        go_at_call 118
        refine HIX.out.mono ?_
        rintro e q1 ⟨rfl, hq1⟩
        subst hq1
        go_wp2_with fail
        refine hK.out _ _ HS7d.out (fun hHeld => ?_)
        clear hK K
        try simp only [Act.put, List.setIfInBounds_toArray, List.set_cons_zero, List.set_cons_succ]
        refine wpAnyH_take (i := 9) (v := .int .i64 ((i : Int) + 1)) rfl (by kernel_rfl) (by kernel_rfl) (by kernel_rfl) (fun _ _ _ h => h) (Or.inl ⟨by kernel_rfl, by intro w hSw; (try dsimp only at hSw); go_simp⟩) (by assumption) ?_
        simp only [Act.put, List.setIfInBounds_toArray, List.set_cons_zero, List.set_cons_succ]
        refine wpAnyH_take (i := 10) (v := .pointer (some ⟨bk, i + 1, none⟩)) rfl (by kernel_rfl) (by kernel_rfl) (by kernel_rfl) (fun _ _ _ h => h) (Or.inl ⟨by kernel_rfl, by intro w hSw; (try dsimp only at hSw); go_simp⟩) (by assumption) ?_
        simp only [Act.put, List.setIfInBounds_toArray, List.set_cons_zero, List.set_cons_succ]
        refine wpAnyH_take (i := 11) (v := .int .i64 (j : Int)) rfl (by kernel_rfl) (by kernel_rfl) (by kernel_rfl) (fun _ _ _ h => h) (Or.inl ⟨by kernel_rfl, by intro w hSw; (try dsimp only at hSw); obtain ⟨h1, h2, h3, h4⟩ := hSw; have t1 := Ch.blk_cell h1 0; have t2 := Ch.blk_cell h2 0; have t3 := PBlk.cell h3 2; simp only [List.getElem?_toArray, List.getElem?_cons_succ, List.getElem?_cons_zero] at t1 t2 t3; clear h1 h2 h3; go_simp⟩) (by assumption) ?_
        simp only [Act.put, List.setIfInBounds_toArray, List.set_cons_zero, List.set_cons_succ]
        refine wpAnyH_ready (rs := [12]) (by kernel_rfl) (by simp) ?_
        refine AllReadyH.cons rfl (fun K hK => ?_) AllReadyH.nil
        go_simp
        go_at_call 40
        refine HEN.out.mono ?_
        rintro e q2 ⟨⟨c1, c2, c3, rfl, hcl⟩, hq2⟩
        have hS2 := HS7.out q2 (HBd.out.trans (hq2.mono HBd.out.size))
        go_wp2_with fail
        refine hK.out _ _ hS2 (fun hHeld => ?_)
        clear hK K
        try simp only [Act.put, List.setIfInBounds_toArray, List.set_cons_zero, List.set_cons_succ]
        refine wpAnyH_take (i := 13) (v := .func (.func 73) #[] #[.pointer (some ⟨c1, 0, none⟩), .pointer (some ⟨c2, 0, none⟩), .pointer (some ⟨c3, 0, none⟩)]) rfl (by kernel_rfl) (by kernel_rfl) (by kernel_rfl) (fun _ _ _ h => h) (Or.inl ⟨by kernel_rfl, by intro w hSw; (try dsimp only at hSw); go_simp⟩) (by assumption) ?_
        simp only [Act.put, List.setIfInBounds_toArray, List.set_cons_zero, List.set_cons_succ]
        refine wpAnyH_done (by kernel_rfl) ?_ _

        try simp only [List.getElem_toArray, List.getElem_cons_succ, List.getElem_cons_zero, Act.put, List.setIfInBounds_toArray, List.set_cons_zero, List.set_cons_succ]
        clear hHeld
        have HQ2 := hid ((HW4.out.trans (HBd.out.mono HW4.out.size)).trans (hq2.mono (Nat.le_trans HW4.out.size HBd.out.size)))
        have HCL := hid hcl
        clear hcl hq2
        go_wp2
        go_ret
        refine ⟨⟨_, _, rfl, fun wx => by kernel_rfl, fun um wx s' hok' hK' hR' => ?_⟩, HQ2.out⟩
        rw [HX.out]
        exact HED.out j s' wx c1 c2 c3 um hjl HMJ.out hok' hK' (HCL.out.rides hR')
      · have HX := hid (HXN1.out hlast)
        rw [hlast] at HLK
        clear HXN1 HXS1 hlast
        go_wp2_with (go_at_call 117; refine HLK.out.mono ?_; rintro e w4 ⟨rfl, hb4⟩)
        have HW4 := hid (HWS.out.trans (hb4.mono HWS.out.size))
        have HB4 := hid hb4
        clear hb4
        go_wp2
        go_ret
        refine ⟨⟨_, _, rfl, fun wx => by kernel_rfl, fun um wx s' hok' hK' hR' => ?_⟩, HW4.out⟩
        rw [HX.out]
        have hz := HB4.out.size
        exact behind3 wg wx R b1 b3 _ ss s' p f _ _ _ _ _ _ _ _ um HO.out hpn hmu hok' ((hR'.block _ (Nat.lt_of_lt_of_le (Ch.blk_lt HK1s.out) hz) (by omega)).trans ((HB4.out.block _ (Ch.blk_lt HK1s.out)).trans HK1s.out)) ((hR'.block _ (Nat.lt_of_lt_of_le l3 hz) (by omega)).trans ((HB4.out.block _ l3).trans HBS.out)) hK'
    · have b5 : (kd == 1) = false := beq_eq_false_iff_ne.2 hk1
      have HX := hid (HXX.out hk4 hk1)
      clear hk4 hk1
      go_wp2
      go_ret
      refine ⟨⟨_, _, rfl, fun wx => by kernel_rfl, fun um wx s' hok' hK' hR' => ?_⟩, HWS.out⟩
      rw [HX.out]
      exact behind3 wg wx R b1 b3 _ ss s' p f _ _ _ _ _ _ _ _ um HO.out hpn hmu hok' ((hR'.block _ (Ch.blk_lt HK1s.out) (by omega)).trans HK1s.out) ((hR'.block _ (Ch.blk_lt HBS.out) (by omega)).trans HBS.out) hK'
theorem behindU {wg : World} {R : Nat} {u : Value} {ss : List StepD} {f : Nat} (hp : pFault ss = 0) (hO : OverU wg R u ss f) (hED : EnterD wg R u ss f) : BehindU wg R u ss f := by
  intro k s w hk hm h
  have hpl := par_lt (first_all (of_p hp).2.1 hk)
  rw [PJ_eq hk] at hpl
  by_cases hn : ss[k].parent < 0
  · exact behindRoot wg w R u ss s k f hp hk (by omega) h
  · exact behindUp wg w R u ss s k ss[k].parent.toNat f hp hk (by omega) (by omega) hm hO hED h
/-- The program's transitions are the plain ones, at every fuel. -/
theorem goU {wg : World} {R : Nat} {u : Value} {ss : List StepD} (hp : pFault ss = 0) : ∀ f, EnterU wg R u ss f ∧ EnterD wg R u ss f ∧ OverU wg R u ss f
  | 0 => ⟨fun k s w b1 b2 b3 hk hm => absurd hm (by unfold mE; omega), fun k s w b1 b2 b3 um hk hm => absurd hm (by unfold mE; omega), fun k s w hk hm => absurd hm (by have := Kc.deep_pos ss k; unfold mO; omega)⟩
  | f + 1 => by
    obtain ⟨h1, h2, h3⟩ := goU hp f
    have hB := beginU hp h1 h3
    exact ⟨enterU hp hB, enterD hp hB, overU hp (behindU hp h3 h2)⟩

end Ku
end Go.Proofs.YtpgbjpfpgbjbeaaGreatDoor
