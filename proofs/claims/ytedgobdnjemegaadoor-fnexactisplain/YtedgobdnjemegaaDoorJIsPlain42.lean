/- The tree of a step made plain, as the specification makes it: l7Plain. -/
import Derived.Test.YtedgobdnjemegaaDoorJIsPlain41
namespace Go.Proofs.YtedgobdnjemegaaDoor
open Go.RowKit Go.Deep
set_option linter.unusedVariables false
namespace Bk
open Ex (hid nvals inR)
open Nd (NodeD)
open St (StepD)
open Nst (own flat)
open So (SOwn)
open Pf (PJ PJ_eq kidsL pFault)
open Pl
/-- What the kids come to. -/
def partsT (kd : Int) (l : List PT) : List PT := if kd = 1 then lineT l else l
theorem parts_take {ss : List StepD} {f j : Nat} {kd : Int} {ks : List Nat} (h : j < ks.length) : partsT kd ((ks.take (j + 1)).map (plB ss f)) = partsT kd ((ks.take j).map (plB ss f)) ++ (if kd = 1 then pieceT (plB ss f ks[j]) else [plB ss f ks[j]]) := by
  rw [take_map h]
  unfold partsT
  by_cases e : kd = 1
  · rw [if_pos e, if_pos e, if_pos e, line_snoc]
  · rw [if_neg e, if_neg e, if_neg e]
theorem parts_few {ss : List StepD} (hl : ss.length ≤ 24) {f : Nat} (hf : f + 1 ≤ 8) (k j : Nat) (kd : Int) : (partsT kd (((kidsL ss k).take j).map (plB ss f))).length ≤ 1000000000000 := by
  unfold partsT
  by_cases e : kd = 1
  · rw [if_pos e, List.map_take]
    exact Nat.le_trans (lineT_le j) (line_few hl hf k)
  · rw [if_neg e]
    have := kids_le hl k
    simp
    omega
theorem rowb_made (A : Nat → Prop) (w : World) (f : Nat) (ty : TypeId) : RowB A w.heap.size ty f (w.alloc (.cells #[] ty)) (.slice (some ⟨w.heap.size, 0, none⟩) 0 0) [] := ⟨fun _ => [], made w ty 7, fun j h => by simp at h⟩
def SPl (ss : List StepD) (f : Nat) : Prop := ∀ (S : Nat → Prop) (k : Nat) (hk : k < ss.length) (x : Value) (w : World), (∀ b, S b → b < w.heap.size) → BV S f w x (gT ss f k) → 8 ≤ f + deepG ss k →
  Calls Tryd.prog 32 #[x] w fun e w' => (∃ v, e = .returned v ∧ BV (Or' S w.heap.size) f w' v (plB ss f k)) ∧ Below w.heap.size w w'
set_option maxRecDepth 100000 in
set_option maxHeartbeats 8000000 in
theorem plainStepS (ss : List StepD) (f : Nat) (hpf : pFault ss = 0) (hl : ss.length ≤ 24) (hf : f + 1 ≤ 8) (IH : SPl ss f) : SPl ss (f + 1) := by
  intro S k hk x w hS hbv hd
  obtain ⟨i0, hi0, hz0, hz1, hz2⟩ := info_parts infoTree
  have hgt : gT ss (f + 1) k = ⟨ss[k], (kidsL ss k).map (gT ss f)⟩ := by rw [gT, PJ_eq hk]
  rw [hgt] at hbv
  obtain ⟨p, vc, ve, vk, rfl, hvc, hve, hvk⟩ := hbv
  obtain ⟨ac, cc, rfl⟩ := hvc.slice
  obtain ⟨ae, ce, rfl⟩ := hve.slice
  obtain ⟨ak, ck, hek⟩ := hvk.slice
  rw [List.length_map] at hek
  subst hek
  have HKL := hid (kids_le hl k)
  have HKM : Hid (∀ (m : Nat) (hm : m < (kidsL ss k).length), (kidsL ss k)[m] < ss.length ∧ 8 ≤ f + deepG ss (kidsL ss k)[m]) := hid (fun m hm => by
    have h1 := kid_mem (List.getElem_mem hm)
    have h2 := kid_deep hpf hk (List.getElem_mem hm)
    exact ⟨h1.1, by omega⟩)
  have HFW : Hid (∀ j, (partsT ss[k].kind (((kidsL ss k).take j).map (plB ss f))).length ≤ 1000000000000) := hid (fun j => parts_few hl hf k j _)
  have HPL : Hid (plB ss (f + 1) k = if ss[k].kind = 1 then wholeT ss[k] (partsT ss[k].kind ((kidsL ss k).map (plB ss f))) else ⟨ss[k], partsT ss[k].kind ((kidsL ss k).map (plB ss f))⟩) := hid (by
    rw [plB, PJ_eq hk]
    unfold partsT
    by_cases e : ss[k].kind = 1
    · rw [if_pos e, if_pos e, if_pos e]
    · rw [if_neg e, if_neg e, if_neg e])
  have hcl : ss[k].cond.length ≤ maxLen := by obtain ⟨a1, c1, e1, h1, h2, _⟩ := hvc.1; exact Nat.le_trans h1 h2
  unfold maxLen at hcl
  clear hgt hd
  generalize hsk : ss[k] = s at *
  generalize hks : kidsL ss k = ks at *
  clear hsk hks
  obtain ⟨w1, hw1⟩ : ∃ w1, w1 = (w.alloc (.cells #[.int .i64 s.kind, .int .i64 p, .string s.name, .int .i64 s.arg, .slice ac s.cond.length cc, .slice ae s.expr.length ce, .slice ak ks.length ck] 66)).alloc (.cells #[.int .i64 0, .int .i64 0, .string { data := #[] }, .int .i64 0, .slice none 0 0, .slice none 0 0, .slice none 0 0] 66) := ⟨_, rfl⟩
  have hb1 : Below w.heap.size w w1 := by rw [hw1]; exact ((Below.refl _ w).alloc (Nat.le_refl _) _).alloc (by simp) _
  have hsz : w1.heap.size = w.heap.size + 2 := by rw [hw1]; simp
  have hx1 : w1.heap[w.heap.size]? = some (.cells #[.int .i64 s.kind, .int .i64 p, .string s.name, .int .i64 s.arg, .slice ac s.cond.length cc, .slice ae s.expr.length ce, .slice ak ks.length ck] 66) := by rw [hw1]; exact (Below.heap_alloc _ _ _ (by simp)).trans (heap_new w _)
  have hr1 : w1.heap[w.heap.size + 1]? = some (.cells #[.int .i64 0, .int .i64 0, .string { data := #[] }, .int .i64 0, .slice none 0 0, .slice none 0 0, .slice none 0 0] 66) := by
    have := heap_new (w.alloc (.cells #[.int .i64 s.kind, .int .i64 p, .string s.name, .int .i64 s.arg, .slice ac s.cond.length cc, .slice ae s.expr.length ce, .slice ak ks.length ck] 66)) (.cells #[.int .i64 0, .int .i64 0, .string { data := #[] }, .int .i64 0, .slice none 0 0, .slice none 0 0, .slice none 0 0] 66)
    rw [World.size_alloc] at this
    rw [hw1]
    exact this
  have hrow0 := rowb_made S w1 f 66
  rw [hsz] at hrow0
  have HRW0 := hid hrow0
  have HB1 := hid hb1
  have HX1 := hid hx1
  have HR1 := hid hr1
  have HZ1 := hid hsz
  have HVC := hid hvc
  have HVE := hid hve
  have HVK := hid hvk
  have HS := hid hS
  have HIH := hid IH
  have HB01 : Hid (Below (w.heap.size + 2) w1 (w1.alloc (.cells #[] 66))) := hid ((Below.refl _ w1).alloc (by omega) _)
  clear hvc hve hvk hb1 hsz hx1 hr1 hS IH hrow0
  go_enter Tryd.func32, Tryd.ntmps32
  go_wp2
  rw [← hw1]
  clear hw1
  go_loopw [3, 4] (fun kv i wr => ∃ (j : Nat), i = .int .i64 j ∧ j ≤ ks.length ∧ (∃ a7 n7 c7, kv = .slice a7 n7 c7) ∧ Hid (RowB S (w.heap.size + 2) 66 f wr kv (partsT s.kind ((ks.take j).map (plB ss f)))) ∧ Hid (Below (w.heap.size + 2) w1 wr)) (fun _ i _ => ks.length - (intOf i).toNat)
  case atStart => exact ⟨0, rfl, Nat.zero_le _, ⟨_, _, _, rfl⟩, hid (by have e : partsT s.kind ((ks.take 0).map (plB ss f)) = [] := (by unfold partsT; split <;> rfl); rw [e]; exact HRW0.out), HB01⟩
  case round =>
    obtain ⟨j, rfl, hjl, ⟨a7, n7, c7, rfl⟩, HO, HB⟩ := hrel
    have hkl := HKL.out
    have hsz := HZ1.out
    have lw := HB.out.size
    have hxx := (HB.out.block w.heap.size (by omega)).trans HX1.out
    have hrr := (HB.out.block (w.heap.size + 1) (by omega)).trans HR1.out
    have HBW := hid (HB1.out.trans (HB.out.mono (by omega)))
    have zl : w.heap.size + 2 ≤ wr.heap.size := by omega
    have x0 : wr.cell? ⟨w.heap.size, 0, none⟩ = some (.int .i64 s.kind) := bcell hxx 0
    have x1 : wr.cell? ⟨w.heap.size, 1, none⟩ = some (.int .i64 p) := bcell hxx 1
    have x2 : wr.cell? ⟨w.heap.size, 2, none⟩ = some (.string s.name) := bcell hxx 2
    have x3 : wr.cell? ⟨w.heap.size, 3, none⟩ = some (.int .i64 s.arg) := bcell hxx 3
    have x4 : wr.cell? ⟨w.heap.size, 4, none⟩ = some (.slice ac s.cond.length cc) := bcell hxx 4
    have x5 : wr.cell? ⟨w.heap.size, 5, none⟩ = some (.slice ae s.expr.length ce) := bcell hxx 5
    have x6 : wr.cell? ⟨w.heap.size, 6, none⟩ = some (.slice ak ks.length ck) := bcell hxx 6
    have z0 : wr.cell? ⟨w.heap.size + 1, 0, none⟩ = some (.int .i64 0) := bcell hrr 0
    have z1 : wr.cell? ⟨w.heap.size + 1, 1, none⟩ = some (.int .i64 0) := bcell hrr 1
    have z2 : wr.cell? ⟨w.heap.size + 1, 2, none⟩ = some (.string { data := #[] }) := bcell hrr 2
    have z3 : wr.cell? ⟨w.heap.size + 1, 3, none⟩ = some (.int .i64 0) := bcell hrr 3
    have z4 : wr.cell? ⟨w.heap.size + 1, 4, none⟩ = some (.slice none 0 0) := bcell hrr 4
    have z5 : wr.cell? ⟨w.heap.size + 1, 5, none⟩ = some (.slice none 0 0) := bcell hrr 5
    have z6 : wr.cell? ⟨w.heap.size + 1, 6, none⟩ = some (.slice none 0 0) := bcell hrr 6
    have hn7 : n7 = (partsT s.kind ((ks.take j).map (plB ss f))).length := by
      obtain ⟨a', c', e'⟩ := HO.out.slice
      cases e'; rfl
    subst hn7
    clear hsz
    by_cases hlt : j < ks.length
    · have q2 : (j : Int) < (ks.length : Int) := by omega
      have hkk := HVK.out.below HBW.out
      obtain ⟨g, pq, vcq, veq, vkq, rfl, hSg, hg, c0, c1, c2, c3, c4, c5, c6, d1, d2, d3⟩ := hkk.at (j := j) (by rw [List.length_map]; exact hlt)
      have hkm := HKM.out j hlt
      simp only [List.getElem_map] at c0 c2 c3 d1 d2 d3
      have HCL := hid (HIH.out S ks[j] hkm.1 (.agg #[.int .i64 (gT ss f ks[j]).s.kind, .int .i64 pq, .string (gT ss f ks[j]).s.name, .int .i64 (gT ss f ks[j]).s.arg, vcq, veq, vkq]) wr (fun b hb => by have := HS.out b hb; omega) ⟨pq, _, _, _, rfl, d1, d2, d3⟩ hkm.2)
      obtain ⟨ax', cx', rfl⟩ := d1.slice
      obtain ⟨ay', cy', rfl⟩ := d2.slice
      obtain ⟨az', cz', rfl⟩ := d3.slice
      have HPT := hid (parts_take (ss := ss) (f := f) (kd := s.kind) hlt)
      have HN1 := HFW.out (j + 1)
      rw [HPT.out, List.length_append] at HN1
      clear d1 d2 d3 hkk hkm
      generalize gT ss f ks[j] = gq at *
      generalize plB ss f ks[j] = q at *
      generalize hL : partsT s.kind ((ks.take j).map (plB ss f)) = L at *
      clear hL
      have HOV : Hid (∀ b, own (.slice a7 L.length c7) b → w.heap.size + 2 ≤ b ∧ b < wr.heap.size) := hid (fun b hb => by
        obtain ⟨cg, ho, _⟩ := HO.out
        exact Nst.own_lt ho hb)
      have HSX : Hid (∀ b, Or' S wr.heap.size b → Sx S (w.heap.size + 2) (.slice a7 L.length c7) b) := hid (sx_of (hi := wr.heap.size) HOV.out (fun b hb => by have := HS.out b hb; omega) (fun b hb => hb) zl)
      go_wp2_with fail
      refine HCL.out.mono ?_
      rintro e w5 ⟨⟨v5, rfl, hv5⟩, hb5⟩
      obtain ⟨pq, vcq, veq, vkq, rfl, hv2, hv3, hv4⟩ := hv5
      obtain ⟨ax, cx, rfl⟩ := hv2.slice
      obtain ⟨ay, cy, rfl⟩ := hv3.slice
      obtain ⟨az, cz, rfl⟩ := hv4.slice
      have l5 := hb5.size
      have hx5 := (hb5.block w.heap.size (by omega)).trans hxx
      have t0 : w5.cell? ⟨w.heap.size, 0, none⟩ = some (.int .i64 s.kind) := bcell hx5 0
      have zl5 : w.heap.size < w5.heap.size := by omega
      have hb6 : Below w5.heap.size w5 (w5.alloc (.cells #[.int .i64 q.s.kind, .int .i64 pq, .string q.s.name, .int .i64 q.s.arg, .slice ax q.s.cond.length cx, .slice ay q.s.expr.length cy, .slice az q.kids.length cz] 66)) := (Below.refl _ w5).alloc (Nat.le_refl _) _
      have hb56 := hb5.trans (hb6.mono l5)
      obtain ⟨cf, ho, hcf⟩ := HO.out.below hb56
      have HOX := hid ho
      have HCF := hid hcf
      have HB56 := hid hb56
      have HV2 := hid hv2
      have HV3 := hid hv3
      have HV4 := hid hv4
      have HB6 := hid hb6
      clear hb5 hb6 hb56 ho hcf hv2 hv3 hv4 HCL HO c0 c1 c2 c3 c4 c5 c6 x0 x1 x2 x3 x4 x5 x6 hx5 hxx hrr z0 z1 z2 z3 z4 z5 z6
      have hdd : Hid (∀ i (h : i < [q].length), C7 (Sx S (w.heap.size + 2) (.slice a7 L.length c7)) ((w5.alloc (.cells #[.int .i64 q.s.kind, .int .i64 pq, .string q.s.name, .int .i64 q.s.arg, .slice ax q.s.cond.length cx, .slice ay q.s.expr.length cy, .slice az q.kids.length cz] 66)).alloc (.cells #[.int .i64 q.s.kind, .int .i64 pq, .string q.s.name, .int .i64 q.s.arg, .slice ax q.s.cond.length cx, .slice ay q.s.expr.length cy, .slice az q.kids.length cz] 66)) (KAt (Sx S (w.heap.size + 2) (.slice a7 L.length c7)) f ((w5.alloc (.cells #[.int .i64 q.s.kind, .int .i64 pq, .string q.s.name, .int .i64 q.s.arg, .slice ax q.s.cond.length cx, .slice ay q.s.expr.length cy, .slice az q.kids.length cz] 66)).alloc (.cells #[.int .i64 q.s.kind, .int .i64 pq, .string q.s.name, .int .i64 q.s.arg, .slice ax q.s.cond.length cx, .slice ay q.s.expr.length cy, .slice az q.kids.length cz] 66))) ((fun _ => [.int .i64 q.s.kind, .int .i64 pq, .string q.s.name, .int .i64 q.s.arg, .slice ax q.s.cond.length cx, .slice ay q.s.expr.length cy, .slice az q.kids.length cz]) i) [q][i]) := hid (fun i h => by
        obtain rfl : i = 0 := by simpa using h
        have hb7 := HB6.out.alloc (by simp) (.cells #[.int .i64 q.s.kind, .int .i64 pq, .string q.s.name, .int .i64 q.s.arg, .slice ax q.s.cond.length cx, .slice ay q.s.expr.length cy, .slice az q.kids.length cz] 66)
        exact ⟨pq, _, _, _, rfl, (HV2.out.below hb7).mono (fun b _ hb => HSX.out b hb), (HV3.out.below hb7).mono (fun b _ hb => HSX.out b hb), KAt.mono (fun b _ hb => HSX.out b hb) f (HV4.out.below hb7)⟩)
      have HROW1 : Hid (Ap.Row ((w5.alloc (.cells #[.int .i64 q.s.kind, .int .i64 pq, .string q.s.name, .int .i64 q.s.arg, .slice ax q.s.cond.length cx, .slice ay q.s.expr.length cy, .slice az q.kids.length cz] 66)).alloc (.cells #[.int .i64 q.s.kind, .int .i64 pq, .string q.s.name, .int .i64 q.s.arg, .slice ax q.s.cond.length cx, .slice ay q.s.expr.length cy, .slice az q.kids.length cz] 66)) 7 (.slice (some ⟨w5.heap.size + 1, 0, none⟩) 1 1) 1 [.int .i64 q.s.kind, .int .i64 pq, .string q.s.name, .int .i64 q.s.arg, .slice ax q.s.cond.length cx, .slice ay q.s.expr.length cy, .slice az q.kids.length cz]) := hid ⟨_, _, rfl, rfl, (by simp [Value.oneCell']), .inr ⟨_, rfl, seven _ (by simp) _ _ _ _ _ _ _ _⟩⟩
      have hbZ : Below (w5.alloc (.cells #[.int .i64 q.s.kind, .int .i64 pq, .string q.s.name, .int .i64 q.s.arg, .slice ax q.s.cond.length cx, .slice ay q.s.expr.length cy, .slice az q.kids.length cz] 66)).heap.size (w5.alloc (.cells #[.int .i64 q.s.kind, .int .i64 pq, .string q.s.name, .int .i64 q.s.arg, .slice ax q.s.cond.length cx, .slice ay q.s.expr.length cy, .slice az q.kids.length cz] 66)) ((w5.alloc (.cells #[.int .i64 q.s.kind, .int .i64 pq, .string q.s.name, .int .i64 q.s.arg, .slice ax q.s.cond.length cx, .slice ay q.s.expr.length cy, .slice az q.kids.length cz] 66)).alloc (.cells #[.int .i64 q.s.kind, .int .i64 pq, .string q.s.name, .int .i64 q.s.arg, .slice ax q.s.cond.length cx, .slice ay q.s.expr.length cy, .slice az q.kids.length cz] 66)) := (Below.refl _ _).alloc (Nat.le_refl _) _
      have HOY := hid (Nst.own_kept HOX.out (fun b hv => hbZ.block b (Nst.own_lt HOX.out hv).2))
      have HCY := hid (fun j (h : j < L.length) => (HCF.out j h).imp (fun v l h => h.below hbZ) (fun v l h => KAt.below h hbZ))
      have HBZ := hid (HB56.out.trans (hbZ.mono (by have := HB56.out.size; exact this)))
      clear hbZ
      by_cases hkd : s.kind = 1
      · have b1 : (s.kind == 1) = true := by simp [hkd]
        rw [if_pos hkd] at HPT HN1
        by_cases hqd : q.s.kind = 1
        · have b2 : (q.s.kind == 1) = true := by simp [hqd]
          have HP : Hid (pieceT q = q.kids) := hid (by unfold pieceT; rw [if_pos hqd])
          rw [HP.out] at HPT HN1
          obtain ⟨d, hrow, hdk⟩ := (KAt.up f (HV4.out.below HB6.out)).row
          have HROW := hid hrow
          have HDD : Hid (∀ j (h : j < q.kids.length), C7 (Sx S (w.heap.size + 2) (.slice a7 L.length c7)) _ (KAt (Sx S (w.heap.size + 2) (.slice a7 L.length c7)) f _) (d j) q.kids[j]) := hid (fun j h => (hdk j h).imp (fun v l h => h.mono (fun b _ hb => HSX.out b hb)) (fun v l h => KAt.mono (fun b _ hb => HSX.out b hb) f h))
          clear hkd hqd hrow hdk hdd HROW1
          go_wp2_with (at_builtin; go_must (refine Ap.wpList_any _ rfl _ _ 64 rfl (w.heap.size + 2) 66 i0 (.agg #[.int .i64 0, .int .i64 0, .string { data := #[] }, .int .i64 0, .slice none 0 0, .slice none 0 0, .slice none 0 0]) 7 112 Tryd.underlying64 hi0 hz0 hz1 hz2 rfl (by decide) _ _ _ rfl HOX.out _ _ _ rfl HROW.out (by unfold maxLen; omega) (by omega) (by simp; omega) _ rfl ?_); intro a9 c9 w9 hown9 hg9 hat9)
          have HO9 := hid (RowB.append HOX.out HCF.out HDD.out hown9 hg9 hat9)
          have HB9 : Hid (Below (w.heap.size + 2) w1 w9) := hid ((HB.out.trans (HB56.out.mono zl)).grown hg9 (by simp; omega) (fun b e => (Nst.own_lt HOX.out e).1))
          clear hown9 hg9 hat9
          go_wp2
          exact ⟨⟨j + 1, by simp, by omega, ⟨_, _, _, rfl⟩, hid (by rw [HPT.out]; exact HO9.out), HB9⟩, by simp [intOf]; omega⟩
        · have b2 : (q.s.kind == 1) = false := by simp [hqd]
          have HP : Hid (pieceT q = [q]) := hid (by unfold pieceT; rw [if_neg hqd])
          rw [HP.out] at HPT HN1
          rw [List.length_singleton] at HN1
          clear hkd hqd
          go_wp2_with (at_builtin; go_must (refine Ap.wpList_any _ rfl _ _ 64 rfl (w.heap.size + 2) 66 i0 (.agg #[.int .i64 0, .int .i64 0, .string { data := #[] }, .int .i64 0, .slice none 0 0, .slice none 0 0, .slice none 0 0]) 7 112 Tryd.underlying64 hi0 hz0 hz1 hz2 rfl (by decide) _ _ _ rfl HOY.out _ _ _ rfl HROW1.out (by unfold maxLen; omega) (by omega) (by simp; omega) _ rfl ?_); intro a9 c9 w9 hown9 hg9 hat9)
          have HO9 := hid (RowB.append (m := [q]) HOY.out HCY.out hdd.out hown9 hg9 hat9)
          have HB9 : Hid (Below (w.heap.size + 2) w1 w9) := hid ((HB.out.trans (HBZ.out.mono zl)).grown hg9 (by simp; omega) (fun b e => (Nst.own_lt HOX.out e).1))
          clear hown9 hg9 hat9
          go_wp2
          exact ⟨⟨j + 1, by simp, by omega, ⟨_, _, _, rfl⟩, hid (by rw [HPT.out]; exact HO9.out), HB9⟩, by simp [intOf]; omega⟩
      · have b1 : (s.kind == 1) = false := by simp [hkd]
        rw [if_neg hkd] at HPT HN1
        rw [List.length_singleton] at HN1
        clear hkd
        go_wp2_with (at_builtin; go_must (refine Ap.wpList_any _ rfl _ _ 64 rfl (w.heap.size + 2) 66 i0 (.agg #[.int .i64 0, .int .i64 0, .string { data := #[] }, .int .i64 0, .slice none 0 0, .slice none 0 0, .slice none 0 0]) 7 112 Tryd.underlying64 hi0 hz0 hz1 hz2 rfl (by decide) _ _ _ rfl HOY.out _ _ _ rfl HROW1.out (by unfold maxLen; omega) (by omega) (by simp; omega) _ rfl ?_); intro a9 c9 w9 hown9 hg9 hat9)
        have HO9 := hid (RowB.append (m := [q]) HOY.out HCY.out hdd.out hown9 hg9 hat9)
        have HB9 : Hid (Below (w.heap.size + 2) w1 w9) := hid ((HB.out.trans (HBZ.out.mono zl)).grown hg9 (by simp; omega) (fun b e => (Nst.own_lt HOX.out e).1))
        clear hown9 hg9 hat9
        go_wp2
        exact ⟨⟨j + 1, by simp, by omega, ⟨_, _, _, rfl⟩, hid (by rw [HPT.out]; exact HO9.out), HB9⟩, by simp [intOf]; omega⟩
    · have q2 : ¬ (j : Int) < (ks.length : Int) := by omega
      have hjn : j = ks.length := by omega
      subst hjn
      rw [List.take_length] at HO
      have HN1 := HFW.out ks.length
      rw [List.take_length] at HN1
      have hx9 : (wr.setCell ⟨w.heap.size, 6, none⟩ (.slice a7 (partsT s.kind ((ks.take ks.length).map (plB ss f))).length c7)).heap[w.heap.size + 1]? = _ := (Below.heap_setCell _ _ _ _ (by simp)).trans hrr
      have fx6 := bfree hxx 6
      have f0 := bfree hrr 0
      have f1 := bfree hrr 1
      have f2 := bfree hrr 2
      have f3 := bfree hrr 3
      have f4 := bfree hrr 4
      have f5 := bfree hrr 5
      have f6 := bfree hrr 6
      have zl1 : w.heap.size < wr.heap.size := by omega
      have zl2 : w.heap.size + 1 < wr.heap.size := by omega
      have HSB : Hid (∀ b, Or' S (w.heap.size + 2) b → b ≠ w.heap.size) := hid (fun b hb e => by
        rcases hb with h | h
        · have := HS.out b h; omega
        · omega)
      have HSR : Hid (∀ b, Or' S (w.heap.size + 2) b → b ≠ w.heap.size + 1) := hid (fun b hb e => by
        rcases hb with h | h
        · have := HS.out b h; omega
        · omega)
      have HSO : Hid (∀ b, Or' S (w.heap.size + 2) b → Or' S w.heap.size b) := hid (fun b hb => by
        rcases hb with h | h
        · exact .inl h
        · exact .inr (by omega))
      have HCX := hid (HVC.out.below HBW.out)
      have HEX := hid (HVE.out.below HBW.out)
      rw [List.take_length] at hx9 ⊢
      generalize hL : partsT s.kind (ks.map (plB ss f)) = L at *
      have HLE := hid hL
      clear hL
      have zl9 : w.heap.size + 1 < (wr.setCell ⟨w.heap.size, 6, none⟩ (.slice a7 L.length c7)).heap.size := by simp only [World.setCell, Array.size_modify]; exact zl2
      have HZ9 := hid zl9
      have HD := hid HO.out.done
      by_cases hkd : s.kind = 1
      · have b1 : (s.kind == 1) = true := by simp [hkd]
        rw [if_pos hkd] at HPL
        by_cases h1 : L.length = 1
        · obtain ⟨g, cap, pq, vcq, veq, vkq, e1, hgl, hg, c0, c1, c2, c3, c4, c5, c6, d1, d2, d3⟩ := HO.out.first h1
          obtain ⟨rfl, rfl⟩ : a7 = some ⟨g, 0, none⟩ ∧ c7 = cap := by simpa [h1] using e1
          obtain ⟨ax, cx, rfl⟩ := d1.slice
          obtain ⟨ay, cy, rfl⟩ := d2.slice
          obtain ⟨az, cz, rfl⟩ := d3.slice
          have HD1 := hid d1
          have HD2 := hid d2
          have HD3 := hid d3
          have HWT : Hid (wholeT s L = condT s.cond (TJ L 0)) := hid (by unfold wholeT; rw [if_pos h1])
          have hgB : g ≠ w.heap.size := by omega
          have hgB2 : w.heap.size ≠ g := by omega
          rw [h1] at hx9 zl9 ⊢
          clear d1 d2 d3 e1 HO hkd
          generalize TJ L 0 = q at *
          by_cases hc0 : 0 < s.cond.length
          · have q3 : (0 : Int) < (s.cond.length : Int) := by omega
            have HCT : Hid (condT s.cond q = ⟨{ q.s with cond := s.cond }, q.kids⟩) := hid (by unfold condT; rw [if_pos hc0])
            go_wp2
            refine bodyPost_ret (results_cell_row Tryd.results32 _ _ (w.heap.size + 1) 66 #[.int .i64 q.s.kind, .int .i64 pq, .string q.s.name, .int .i64 q.s.arg, .slice ac s.cond.length cc, .slice ay q.s.expr.length cy, .slice az q.kids.length cz] (0, 0) _ rfl ((Below.heap_alloc _ _ _ (by rw [size7]; exact zl9)).trans (set7 hx9 _ _ _ _ _ _ _)) Tryd.underlying66 rfl (by rw [hi0]; simp [hz1])) rfl ⟨⟨_, rfl, ?_⟩, (below7 (HBW.out.setCell (p := ⟨w.heap.size, 6, none⟩) (Nat.le_refl _) _) (by omega) _ _ _ _ _ _ _).alloc (by rw [size7]; omega) _⟩
            rw [HPL.out, HWT.out, HCT.out]
            exact bv_fin (S := Or' S (w.heap.size + 2)) (wr := wr) (t := ⟨{ q.s with cond := s.cond }, q.kids⟩) ((kp7 ((Kp.refl _ wr).setCell (p := ⟨w.heap.size, 6, none⟩) (fun _ h2 => HSB.out _ h2 rfl) _) (fun h2 => HSR.out _ h2 rfl) _ _ _ _ _ _ _).alloc _) (HCX.out.mono (fun b _ hb => .inl hb)) HD2.out (KAt.up f HD3.out) HSO.out
          · have q3 : ¬ (0 : Int) < (s.cond.length : Int) := by omega
            have HCT : Hid (condT s.cond q = q) := hid (by unfold condT; rw [if_neg hc0])
            go_wp2
            refine bodyPost_ret (results_cell_row Tryd.results32 _ _ (w.heap.size + 1) 66 #[.int .i64 q.s.kind, .int .i64 pq, .string q.s.name, .int .i64 q.s.arg, .slice ax q.s.cond.length cx, .slice ay q.s.expr.length cy, .slice az q.kids.length cz] (0, 0) _ rfl ((Below.heap_alloc _ _ _ (by rw [size7]; exact zl9)).trans (set7 hx9 _ _ _ _ _ _ _)) Tryd.underlying66 rfl (by rw [hi0]; simp [hz1])) rfl ⟨⟨_, rfl, ?_⟩, (below7 (HBW.out.setCell (p := ⟨w.heap.size, 6, none⟩) (Nat.le_refl _) _) (by omega) _ _ _ _ _ _ _).alloc (by rw [size7]; omega) _⟩
            rw [HPL.out, HWT.out, HCT.out]
            exact bv_fin (S := Or' S (w.heap.size + 2)) (wr := wr) ((kp7 ((Kp.refl _ wr).setCell (p := ⟨w.heap.size, 6, none⟩) (fun _ h2 => HSB.out _ h2 rfl) _) (fun h2 => HSR.out _ h2 rfl) _ _ _ _ _ _ _).alloc _) HD1.out HD2.out (KAt.up f HD3.out) HSO.out
        · have HWT : Hid (wholeT s L = ⟨s, L⟩) := hid (by unfold wholeT; rw [if_neg h1])
          have b2 : ((L.length : Int) == 1) = false := by simp; omega
          clear HO hkd h1
          go_wp2
          refine bodyPost_ret (results_cell_row Tryd.results32 _ _ (w.heap.size + 1) 66 #[.int .i64 s.kind, .int .i64 p, .string s.name, .int .i64 s.arg, .slice ac s.cond.length cc, .slice ae s.expr.length ce, .slice a7 L.length c7] (0, 0) _ rfl (set7 hx9 _ _ _ _ _ _ _) Tryd.underlying66 rfl (by rw [hi0]; simp [hz1])) rfl ⟨⟨_, rfl, ?_⟩, below7 (HBW.out.setCell (p := ⟨w.heap.size, 6, none⟩) (Nat.le_refl _) _) (by omega) _ _ _ _ _ _ _⟩
          rw [HPL.out, HWT.out]
          exact bv_fin (S := Or' S (w.heap.size + 2)) (wr := wr) (t := ⟨s, L⟩) (kp7 ((Kp.refl _ wr).setCell (p := ⟨w.heap.size, 6, none⟩) (fun _ h2 => HSB.out _ h2 rfl) _) (fun h2 => HSR.out _ h2 rfl) _ _ _ _ _ _ _) (HCX.out.mono (fun b _ hb => .inl hb)) (HEX.out.mono (fun b _ hb => .inl hb)) HD.out HSO.out
      · have b1 : (s.kind == 1) = false := by simp [hkd]
        rw [if_neg hkd] at HPL
        clear HO hkd
        go_wp2
        refine bodyPost_ret (results_cell_row Tryd.results32 _ _ (w.heap.size + 1) 66 #[.int .i64 s.kind, .int .i64 p, .string s.name, .int .i64 s.arg, .slice ac s.cond.length cc, .slice ae s.expr.length ce, .slice a7 L.length c7] (0, 0) _ rfl (set7 hx9 _ _ _ _ _ _ _) Tryd.underlying66 rfl (by rw [hi0]; simp [hz1])) rfl ⟨⟨_, rfl, ?_⟩, below7 (HBW.out.setCell (p := ⟨w.heap.size, 6, none⟩) (Nat.le_refl _) _) (by omega) _ _ _ _ _ _ _⟩
        rw [HPL.out]
        exact bv_fin (S := Or' S (w.heap.size + 2)) (wr := wr) (t := ⟨s, L⟩) (kp7 ((Kp.refl _ wr).setCell (p := ⟨w.heap.size, 6, none⟩) (fun _ h2 => HSB.out _ h2 rfl) _) (fun h2 => HSR.out _ h2 rfl) _ _ _ _ _ _ _) (HCX.out.mono (fun b _ hb => .inl hb)) (HEX.out.mono (fun b _ hb => .inl hb)) HD.out HSO.out
theorem pl_all {ss : List StepD} (hpf : pFault ss = 0) (hl : ss.length ≤ 24) : ∀ f, f ≤ 8 → SPl ss f
  | 0, _ => fun S k hk x w hS hb hd => absurd hd (by have := deep_le hpf hk; omega)
  | f + 1, hf => plainStepS ss f hpf hl hf (pl_all hpf hl f (by omega))
end Bk
end Go.Proofs.YtedgobdnjemegaaDoor
