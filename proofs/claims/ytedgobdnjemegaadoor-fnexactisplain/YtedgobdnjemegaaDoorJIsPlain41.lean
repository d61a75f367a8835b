/- The tree of a step, as the specification makes it: l7Grow. -/
import Derived.Test.YtedgobdnjemegaaDoorJIsPlain37
import Derived.Test.YtedgobdnjemegaaDoorJIsPlain40
import Derived.Deep.RegionHeld3
namespace Go.Proofs.YtedgobdnjemegaaDoor
open Go.RowKit Go.Deep
set_option linter.unusedVariables false
namespace Bk
open Ex (hid nvals inR)
open Nd (NodeD)
open St (StepD)
open Nst (own flat)
open So (SOwn)
open Pf (PJ PJ_eq kidsL pFault specKids)
open Pt (kidVals)
open Pl
theorem infoTree : (Tryd.prog.info? 66).map (fun i => (i.zero, i.size, i.bytes)) = some (some (.agg #[.int .i64 0, .int .i64 0, .string { data := #[] }, .int .i64 0, .slice none 0 0, .slice none 0 0, .slice none 0 0]), 7, 112) := by kernel_rfl
/-- A tree that grows at block T, over a list of kids at block bk. -/
structure GW (ss : List StepD) (f : Nat) (wp w0 w3 : World) (T bk : Nat) (ks : List Nat) (s : StepD) (vc ve : Value) (wr : World) (j : Nat) (v : Value) : Prop where
  blk : wr.heap[T]? = some (.cells #[.int .i64 s.kind, .int .i64 s.parent, .string s.name, .int .i64 s.arg, vc, ve, v] 66)
  row : RowB (Old wp) w3.heap.size 66 f wr v ((ks.take j).map (gT ss f))
  kid : ∀ i (h : i < ks.length), wr.cell? ⟨bk, i, none⟩ = some (.int .i64 (ks[i] : Int))
  bel : Below T w0 wr
  size : w3.heap.size ≤ wr.heap.size
  lt : T < w3.heap.size ∧ T ≤ w0.heap.size
  ne : 0 < ks.length → bk < w3.heap.size ∧ T < bk
theorem take_gT {ss : List StepD} {f j : Nat} {ks : List Nat} (h : j < ks.length) : (ks.take (j + 1)).map (gT ss f) = (ks.take j).map (gT ss f) ++ [gT ss f ks[j]] := by
  rw [List.take_succ_eq_append_getElem h, List.map_append]; rfl
theorem grow_next {ss : List StepD} {f : Nat} {wp w0 w3 wr w6 w9 : World} {T bk : Nat} {ks : List Nat} {s : StepD} {vc ve v v9 : Value} {j : Nat} {L : List PT} {row : Option Nat} (h : GW ss f wp w0 w3 T bk ks s vc ve wr j v) (hlt : j < ks.length) (hL : (ks.take (j + 1)).map (gT ss f) = L) (hb : Below wr.heap.size wr w6)
    (hr : RowB (Old wp) w3.heap.size 66 f w9 v9 L) (hg : w6.grownBy w9 row) (hrow : ∀ b, row = some b → w3.heap.size ≤ b) (hx : w9.heap[T]? = some (.cells #[.int .i64 s.kind, .int .i64 s.parent, .string s.name, .int .i64 s.arg, vc, ve, v] 66)) (hT : wp.heap.size ≤ T) :
    GW ss f wp w0 w3 T bk ks s vc ve (w9.setCell ⟨T, 6, none⟩ v9) (j + 1) v9 := by
  have hwr := h.size
  have h6 := hb.size
  have h9 := hg.size
  have hlt3 := h.lt
  have hne := h.ne (by omega)
  refine ⟨?_, ?_, fun i hi => ?_, ?_, ?_, h.lt, h.ne⟩
  · have := blk_put (i := 6) hx v9
    simpa using this
  · rw [hL]
    obtain ⟨c, ho, hc⟩ := hr
    have hk : Kp (Sx (Old wp) w3.heap.size v9) w9 (w9.setCell ⟨T, 6, none⟩ v9) := (Kp.refl _ _).setCell (p := ⟨T, 6, none⟩) (fun _ hs => by
      rcases hs.1 with h1 | h1
      · unfold Old at h1; dsimp only at h1; omega
      · dsimp only at h1; omega) _
    exact ⟨c, ownsRow_setCell_below ho (a := ⟨T, 6, none⟩) hlt3.1 _, fun i hi => (hc i hi).imp (fun v l h => h.kp hk) (fun v l h => KAt.kp h hk)⟩
  · have e : (w9.setCell ⟨T, 6, none⟩ v9).heap[bk]? = wr.heap[bk]? := (Below.heap_setCell _ _ _ _ (by dsimp only; omega)).trans ((hg.block bk (by omega) (fun e => by have := hrow bk e.symm; omega)).trans (hb.block bk (by omega)))
    have := h.kid i hi
    simp only [World.cell?, e] at this ⊢
    exact this
  · exact ((h.bel.trans (hb.mono (by omega))).grown hg (by omega) (fun b e => by have := hrow b e; omega)).setCell (p := ⟨T, 6, none⟩) (Nat.le_refl _) _
  · have : (w9.setCell ⟨T, 6, none⟩ v9).heap.size = w9.heap.size := by simp [World.setCell]
    omega
def SGrow (ss : List StepD) (v : Value) (wp : World) (f : Nat) : Prop := ∀ (k : Nat) (hk : k < ss.length) (w : World), Below wp.heap.size wp w → 8 ≤ f + deepG ss k →
  Calls Tryd.prog 33 #[v, .int .i64 (k : Int)] w fun e w' => (∃ x, e = .returned x ∧ BV (Or' (Old wp) w.heap.size) f w' x (gT ss f k)) ∧ Below w.heap.size w w'
set_option maxRecDepth 100000 in
set_option maxHeartbeats 8000000 in
theorem growStep (ss : List StepD) (v : Value) (wp : World) (f B0 : Nat) (hpf : pFault ss = 0) (hl : ss.length ≤ 24) (ha : St.At wp B0 v ss) (IH : SGrow ss v wp f) : SGrow ss v wp (f + 1) := by
  intro k hk w hb hd
  obtain ⟨i0, hi0, hz0, hz1, hz2⟩ := info_parts infoTree
  obtain ⟨aq, cq, hv⟩ := ha.slice
  obtain ⟨nq, hnq⟩ : ∃ n, n = ss.length := ⟨_, rfl⟩
  rw [← hnq] at hv
  subst hv
  obtain ⟨gs, os, vc, ve, rfl, hgs, p0, p1, p2, p3, p4, p5, hvc, hve⟩ := ha.at hk
  obtain ⟨ac, cc, rfl⟩ := hvc.slice
  obtain ⟨ae, ce, rfl⟩ := hve.slice
  have cl : ∀ {o : Nat} {v : Value}, wp.cell? ⟨gs, o, none⟩ = some v → w.cell? ⟨gs, o, none⟩ = some v := fun h => (hb.cell (p := ⟨gs, _, none⟩) hgs).trans h
  have c0 := cl p0
  have c1 := cl p1
  have c2 := cl p2
  have c3 := cl p3
  have c4 := cl p4
  have c5 := cl p5
  have zg : gs < w.heap.size := Nat.lt_of_lt_of_le hgs hb.size
  have q1 : (k : Int) < (nq : Int) := by omega
  obtain ⟨w0, hw0⟩ : ∃ w0, w0 = (w.alloc (.cells #[.int .i64 0, .int .i64 0, .string { data := #[] }, .int .i64 0, .slice none 0 0, .slice none 0 0, .slice none 0 0] 66)).alloc (.cells #[.int .i64 ss[k].kind, .int .i64 ss[k].parent, .string ss[k].name, .int .i64 ss[k].arg, .slice ac ss[k].cond.length cc, .slice ae ss[k].expr.length ce, .slice none 0 0] 66) := ⟨_, rfl⟩
  have hb0 : Below w.heap.size w w0 := by rw [hw0]; exact ((Below.refl _ w).alloc (Nat.le_refl _) _).alloc (by simp) _
  have hsz : w0.heap.size = w.heap.size + 2 := by rw [hw0]; simp
  have hr0 : w0.heap[w.heap.size]? = some (.cells #[.int .i64 0, .int .i64 0, .string { data := #[] }, .int .i64 0, .slice none 0 0, .slice none 0 0, .slice none 0 0] 66) := by rw [hw0]; exact (Below.heap_alloc _ _ _ (by simp)).trans (heap_new w _)
  have hx0 : w0.heap[w.heap.size + 1]? = some (.cells #[.int .i64 ss[k].kind, .int .i64 ss[k].parent, .string ss[k].name, .int .i64 ss[k].arg, .slice ac ss[k].cond.length cc, .slice ae ss[k].expr.length ce, .slice none 0 0] 66) := by
    have := heap_new (w.alloc (.cells #[.int .i64 0, .int .i64 0, .string { data := #[] }, .int .i64 0, .slice none 0 0, .slice none 0 0, .slice none 0 0] 66)) (.cells #[.int .i64 ss[k].kind, .int .i64 ss[k].parent, .string ss[k].name, .int .i64 ss[k].arg, .slice ac ss[k].cond.length cc, .slice ae ss[k].expr.length ce, .slice none 0 0] 66)
    rw [World.size_alloc] at this
    rw [hw0]
    exact this
  have HBP := hid (hb.trans (hb0.mono hb.size))
  have HK := hid (specKids B0 ss _ k w0 (by omega) (ha.below HBP.out))
  have HKL := hid (kids_le hl k)
  have HKM : Hid (∀ (m : Nat) (hm : m < (kidsL ss k).length), (kidsL ss k)[m] < ss.length ∧ 8 ≤ f + deepG ss (kidsL ss k)[m]) := hid (fun m hm => by
    have h1 := kid_mem (List.getElem_mem hm)
    have h2 := kid_deep hpf hk (List.getElem_mem hm)
    exact ⟨h1.1, by omega⟩)
  have HGT : Hid (gT ss (f + 1) k = ⟨ss[k], (kidsL ss k).map (gT ss f)⟩) := hid (by rw [gT, PJ_eq hk])
  have HB0 := hid hb0
  have HR0 := hid hr0
  have HX0 := hid hx0
  have HZ0 := hid hsz
  have HWP := hid hb.size
  have HVC := hid (hvc.mono (Nat.zero_le _))
  have HVE := hid (hve.mono (Nat.zero_le _))
  have HIH := hid IH
  have HNQ := hid hnq
  clear hvc hve hb0 hsz hr0 hx0 hb ha IH cl p0 p1 p2 p3 p4 p5 hd hnq
  generalize kidsL ss k = ks at *
  go_enter Tryd.func33, Tryd.ntmps33
  go_wp2_with fail
  rw [← hw0]
  clear hw0 c0 c1 c2 c3 c4 c5
  refine HK.out.mono ?_
  rintro e w3 ⟨⟨u, rfl, hu⟩, hb3⟩
  obtain ⟨bk, ck, ak, rfl, hkc, hne⟩ : ∃ bk ck ak, u = .slice ak ks.length ck ∧ (∀ i (h : i < ks.length), w3.cell? ⟨bk, i, none⟩ = some (.int .i64 (ks[i] : Int))) ∧ (0 < ks.length → ak = some ⟨bk, 0, none⟩ ∧ w0.heap.size ≤ bk ∧ bk < w3.heap.size) := by
    rcases Nat.eq_zero_or_pos ks.length with h0 | h0
    · obtain ⟨a, c, e⟩ := Nst.own_slice hu
      exact ⟨0, c, a, e, fun i h => by omega, fun h => by omega⟩
    · obtain ⟨bk, cap, e, h1, h2, h3, h4⟩ := Nst.own_some hu h0
      subst e
      exact ⟨bk, cap, _, rfl, fun i hi => (hu.cellAt i (by omega)).trans (by simp [kidVals, hi]), fun _ => ⟨rfl, h1, h2⟩⟩
  have hsz := HZ0.out
  have l3 := hb3.size
  have HG0 : Hid (GW ss f wp w0 w3 (w.heap.size + 1) bk ks ss[k] (.slice ac ss[k].cond.length cc) (.slice ae ss[k].expr.length ce) w3 0 (.slice none 0 0)) := hid ⟨(hb3.block _ (by omega)).trans HX0.out, RowB.nil _ _ _ _ _, hkc, hb3.mono (by omega), Nat.le_refl _, ⟨by omega, by omega⟩, fun h => ⟨(hne h).2.2, by have := (hne h).2.1; omega⟩⟩
  have HNE := hid hne
  have HWP3 := HWP.out
  clear hu hkc hne hb3 HK hsz
  go_wp2
  go_loopw [7] (fun i wr => ∃ (j : Nat), i = .int .i64 j ∧ j ≤ ks.length ∧ Hid (∃ a7 n7 c7, GW ss f wp w0 w3 (w.heap.size + 1) bk ks ss[k] (.slice ac ss[k].cond.length cc) (.slice ae ss[k].expr.length ce) wr j (.slice a7 n7 c7))) (fun i _ => ks.length - (intOf i).toNat)
  case atStart => exact ⟨0, rfl, Nat.zero_le _, hid ⟨_, _, _, HG0.out⟩⟩
  case round =>
    obtain ⟨j, rfl, hjl, HX⟩ := hrel
    obtain ⟨a7, n7, c7, hG⟩ := HX.out
    have hkl := HKL.out
    have zT : w.heap.size + 1 < wr.heap.size := Nat.lt_of_lt_of_le hG.lt.1 hG.size
    have HBR : Hid (Below wp.heap.size wp wr) := hid (HBP.out.trans (hG.bel.mono (by omega)))
    by_cases hlt : j < ks.length
    · have q2 : (j : Int) < (ks.length : Int) := by omega
      obtain ⟨rfl, hbk1, hbk2⟩ := HNE.out (by omega)
      have s0 := hG.kid j hlt
      have zb : bk < wr.heap.size := Nat.lt_of_lt_of_le hbk2 hG.size
      have hbT := (hG.ne (by omega)).2
      have hxx := hG.blk
      have hn7 : n7 = ((ks.take j).map (gT ss f)).length := by
        obtain ⟨a', c', e'⟩ := hG.row.slice
        cases e'; rfl
      have hn24 : ((ks.take j).map (gT ss f)).length ≤ 24 := by simp; omega
      subst hn7
      have k6 : wr.cell? ⟨w.heap.size + 1, 6, none⟩ = some (.slice a7 ((ks.take j).map (gT ss f)).length c7) := bcell hxx 6
      have hkm := HKM.out j hlt
      have HCL := hid (HIH.out ks[j] hkm.1 wr.drew HBR.out.drew hkm.2)
      have HTM := hid (take_gT (ss := ss) (f := f) hlt)
      have HROW := hid hG.row
      have HOV : Hid (∀ b, own (.slice a7 ((ks.take j).map (gT ss f)).length c7) b → w3.heap.size ≤ b ∧ b < wr.heap.size) := hid (fun b hb => by
        obtain ⟨c, ho, _⟩ := hG.row
        exact Nst.own_lt ho hb)
      have HSX : Hid (∀ b, Or' (Old wp) wr.heap.size b → Sx (Old wp) w3.heap.size (.slice a7 ((ks.take j).map (gT ss f)).length c7) b) := hid (sx_of (hi := wr.heap.size) HOV.out (fun b hb => by unfold Old at hb; omega) (fun b hb => hb) hG.size)
      have HGW := hid hG
      have l33 := hG.size
      have l3T := hG.lt.1
      clear hG HX hkm HNE
      generalize gT ss f ks[j] = q at *
      generalize ks[j] = m at *
      generalize hL : (ks.take j).map (gT ss f) = L at *
      have HLE := hid hL
      clear hL
      go_wp2
      refine wp_region_held_drew (S := fun wx => wx.cell? ⟨bk, j, none⟩ = some (.int .i64 (m : Int))) (by kernel_rfl) s0 (fun hHeld => ?_)
      refine wpAnyH_take (i := 0) (oi := { dst := some 22, op := Go.Op.fieldAddr 66 (Go.Operand.tmp 5) 1, type := 0, pos := "l07_block.go:18", after := #[], guard := none }) (v := .pointer (some ⟨w.heap.size + 1, 6, none⟩)) rfl (by kernel_rfl) (by kernel_rfl) (by kernel_rfl) (fun _ _ _ h => h) (Or.inl ⟨by rfl, by intro w hSw; (try dsimp only at hSw); go_simp⟩) (by assumption) ?_
      simp only [Act.put, List.setIfInBounds_toArray, List.set_cons_zero, List.set_cons_succ]
      refine wpAnyH_take (i := 2) (oi := { dst := some 24, op := Go.Op.move (Go.Operand.tmp 0), type := 24, pos := "l07_block.go:18", after := #[], guard := none }) (v := .slice (some ⟨gs, os, none⟩) nq cq) rfl (by kernel_rfl) (by kernel_rfl) (by kernel_rfl) (fun _ _ _ h => h) (Or.inl ⟨by rfl, by intro w hSw; (try dsimp only at hSw); go_simp⟩) (by assumption) ?_
      simp only [Act.put, List.setIfInBounds_toArray, List.set_cons_zero, List.set_cons_succ]
      refine wpAnyH_take (i := 3) (oi := { dst := some 25, op := Go.Op.move (Go.Operand.tmp 6), type := 56, pos := "l07_block.go:18", after := #[], guard := none }) (v := .slice (some ⟨bk, 0, none⟩) ks.length ck) rfl (by kernel_rfl) (by kernel_rfl) (by kernel_rfl) (fun _ _ _ h => h) (Or.inl ⟨by rfl, by intro w hSw; (try dsimp only at hSw); go_simp⟩) (by assumption) ?_
      simp only [Act.put, List.setIfInBounds_toArray, List.set_cons_zero, List.set_cons_succ]
      refine wpAnyH_take (i := 4) (oi := { dst := some 26, op := Go.Op.move (Go.Operand.tmp 7), type := 3, pos := "l07_block.go:18", after := #[], guard := none }) (v := .int .i64 (j : Int)) rfl (by kernel_rfl) (by kernel_rfl) (by kernel_rfl) (fun _ _ _ h => h) (Or.inl ⟨by rfl, by intro w hSw; (try dsimp only at hSw); go_simp⟩) (by assumption) ?_
      simp only [Act.put, List.setIfInBounds_toArray, List.set_cons_zero, List.set_cons_succ]
      refine wpAnyH_take (i := 5) (oi := { dst := some 27, op := Go.Op.indexAddr 56 (Go.Operand.tmp 25) (Go.Operand.tmp 26), type := 0, pos := "l07_block.go:18", after := #[{ on := 3, ground := Go.Ground.data }, { on := 4, ground := Go.Ground.data }], guard := none }) (v := .pointer (some ⟨bk, j, none⟩)) rfl (by kernel_rfl) (by kernel_rfl) (by kernel_rfl) (fun _ _ _ h => h) (Or.inl ⟨by rfl, by intro w hSw; (try dsimp only at hSw); go_simp⟩) (by assumption) ?_
      simp only [Act.put, List.setIfInBounds_toArray, List.set_cons_zero, List.set_cons_succ]
      refine wpAnyH_take (i := 6) (oi := { dst := some 28, op := Go.Op.load 2 (Go.Operand.tmp 27), type := 2, pos := "l07_block.go:18", after := #[{ on := 5, ground := Go.Ground.data }], guard := none }) (v := .int .i64 (m : Int)) rfl (by kernel_rfl) (by kernel_rfl) (by kernel_rfl) (fun _ _ _ h => h) (Or.inl ⟨by rfl, by intro w hSw; (try dsimp only at hSw); go_simp⟩) (by assumption) ?_
      simp only [Act.put, List.setIfInBounds_toArray, List.set_cons_zero, List.set_cons_succ]
      refine wpAnyH_ready (rs := [1, 7]) (by kernel_rfl) (by simp) ?_
      refine (AllReadyH.cons (o := { dst := some 23, op := Go.Op.load 64 (Go.Operand.tmp 22), type := 64, pos := "l07_block.go:18", after := #[{ on := 0, ground := Go.Ground.data }], guard := none }) rfl (fun K hK => ?_) (AllReadyH.cons (o := { dst := some 29, op := Go.Op.call { callee := Go.Callee.value (Go.Operand.func 33), args := #[Go.Operand.tmp 24, Go.Operand.tmp 28], argTypes := #[24, 2] }, type := 66, pos := "l07_block.go:18", after := #[{ on := 2, ground := Go.Ground.data }, { on := 6, ground := Go.Ground.data }], guard := none }) rfl (fun K hK => ?_) AllReadyH.nil))
      · go_simp
        refine hK.out _ _ s0 (fun hHeld => ?_)
        clear hK K
        try simp only [Act.put, List.setIfInBounds_toArray, List.set_cons_zero, List.set_cons_succ]
        refine wpAnyH_ready (rs := [7]) (by kernel_rfl) (by simp) ?_
        refine (AllReadyH.cons (o := { dst := some 29, op := Go.Op.call { callee := Go.Callee.value (Go.Operand.func 33), args := #[Go.Operand.tmp 24, Go.Operand.tmp 28], argTypes := #[24, 2] }, type := 66, pos := "l07_block.go:18", after := #[{ on := 2, ground := Go.Ground.data }, { on := 6, ground := Go.Ground.data }], guard := none }) rfl (fun K hK => ?_) AllReadyH.nil)
        go_simp
        go_at_call 33
        refine HCL.out.mono ?_
        rintro e w5 ⟨⟨v5, rfl, hv5⟩, hb5⟩
        obtain ⟨p, vcq, veq, vkq, rfl, hv2, hv3, hv4⟩ := hv5
        obtain ⟨ax, cx, rfl⟩ := hv2.slice
        obtain ⟨ay, cy, rfl⟩ := hv3.slice
        obtain ⟨az, cz, rfl⟩ := hv4.slice
        have l5 : wr.heap.size ≤ w5.heap.size := hb5.size
        have hx5 := (hb5.block (w.heap.size + 1) zT).trans hxx
        have k5 : w5.cell? ⟨w.heap.size + 1, 6, none⟩ = some (.slice a7 L.length c7) := bcell hx5 6
        have zT5 : w.heap.size + 1 < w5.heap.size := Nat.lt_of_lt_of_le zT l5
        have s5 : w5.cell? ⟨bk, j, none⟩ = some (.int .i64 (m : Int)) := (hb5.cell (p := ⟨bk, j, none⟩) zb).trans s0
        have zb5 : bk < w5.heap.size := Nat.lt_of_lt_of_le zb l5
        go_wp2_with fail
        refine hK.out _ _ s5 (fun hHeld => ?_)
        clear hK K
        try simp only [Act.put, List.setIfInBounds_toArray, List.set_cons_zero, List.set_cons_succ]
        refine wpAnyH_ready (rs := [8]) (by kernel_rfl) (by simp) ?_
        refine (AllReadyH.cons (o := { dst := some 30, op := Go.Op.buildSlice 64 1 #[(0, Go.Operand.tmp 29)], type := 64, pos := "l07_block.go:18", after := #[{ on := 7, ground := Go.Ground.data }], guard := none }) rfl (fun K hK => ?_) AllReadyH.nil)
        have s6 : (w5.alloc (.cells #[.int .i64 q.s.kind, .int .i64 p, .string q.s.name, .int .i64 q.s.arg, .slice ax q.s.cond.length cx, .slice ay q.s.expr.length cy, .slice az q.kids.length cz] 66)).cell? ⟨bk, j, none⟩ = some (.int .i64 (m : Int)) := (((Below.refl _ w5).alloc (Nat.le_refl _) _).cell (p := ⟨bk, j, none⟩) zb5).trans s5
        go_simp
        refine hK.out _ _ s6 (fun hHeld => ?_)
        clear hK K
        try simp only [Act.put, List.setIfInBounds_toArray, List.set_cons_zero, List.set_cons_succ]
        refine wpAnyH_ready (rs := [9]) (by kernel_rfl) (by simp) ?_
        refine (AllReadyH.cons (o := { dst := some 31, op := Go.Op.call { callee := Go.Callee.builtin Go.Builtin.append, args := #[Go.Operand.tmp 23, Go.Operand.tmp 30], argTypes := #[64, 64] }, type := 64, pos := "l07_block.go:18", after := #[{ on := 1, ground := Go.Ground.data }, { on := 8, ground := Go.Ground.data }, { on := 7, ground := Go.Ground.chain }], guard := none }) rfl (fun K hK => ?_) AllReadyH.nil)
        have hb6 : Below w5.heap.size w5 (w5.alloc (.cells #[.int .i64 q.s.kind, .int .i64 p, .string q.s.name, .int .i64 q.s.arg, .slice ax q.s.cond.length cx, .slice ay q.s.expr.length cy, .slice az q.kids.length cz] 66)) := (Below.refl _ w5).alloc (Nat.le_refl _) _
        have hb56 := ((Below.refl _ wr).drew.trans hb5).trans (hb6.mono l5)
        obtain ⟨cf, ho, hcf⟩ := HROW.out.below hb56
        have hsx : ∀ b, Or' (Old wp) wr.heap.size b → Sx (Old wp) w3.heap.size (.slice a7 L.length c7) b := HSX.out
        have hdd : ∀ i (h : i < [q].length), C7 (Sx (Old wp) w3.heap.size (.slice a7 L.length c7)) (w5.alloc (.cells #[.int .i64 q.s.kind, .int .i64 p, .string q.s.name, .int .i64 q.s.arg, .slice ax q.s.cond.length cx, .slice ay q.s.expr.length cy, .slice az q.kids.length cz] 66)) (KAt (Sx (Old wp) w3.heap.size (.slice a7 L.length c7)) f (w5.alloc (.cells #[.int .i64 q.s.kind, .int .i64 p, .string q.s.name, .int .i64 q.s.arg, .slice ax q.s.cond.length cx, .slice ay q.s.expr.length cy, .slice az q.kids.length cz] 66))) ((fun _ => [.int .i64 q.s.kind, .int .i64 p, .string q.s.name, .int .i64 q.s.arg, .slice ax q.s.cond.length cx, .slice ay q.s.expr.length cy, .slice az q.kids.length cz]) i) [q][i] := fun i h => by obtain rfl : i = 0 := (by simpa using h); exact ⟨p, _, _, _, rfl, (hv2.below hb6).mono (fun b _ hb => hsx b hb), (hv3.below hb6).mono (fun b _ hb => hsx b hb), KAt.mono (fun b _ hb => hsx b hb) f (hv4.below hb6)⟩
        have hrow : Ap.Row (w5.alloc (.cells #[.int .i64 q.s.kind, .int .i64 p, .string q.s.name, .int .i64 q.s.arg, .slice ax q.s.cond.length cx, .slice ay q.s.expr.length cy, .slice az q.kids.length cz] 66)) 7 (.slice (some ⟨w5.heap.size, 0, none⟩) 1 1) 1 [.int .i64 q.s.kind, .int .i64 p, .string q.s.name, .int .i64 q.s.arg, .slice ax q.s.cond.length cx, .slice ay q.s.expr.length cy, .slice az q.kids.length cz] := ⟨_, _, rfl, rfl, (by simp [Value.oneCell']), .inr ⟨_, rfl, seven _ rfl _ _ _ _ _ _ _ _⟩⟩
        have hl24 : L.length + 1 ≤ 1000 := by omega
        refine Ap.step_any _ (by rfl) _ _ 64 (by rfl) w3.heap.size 66 i0 (.agg #[.int .i64 0, .int .i64 0, .string { data := #[] }, .int .i64 0, .slice none 0 0, .slice none 0 0, .slice none 0 0]) 7 112 Tryd.underlying64 hi0 hz0 hz1 hz2 rfl (by decide) (.slice a7 L.length c7) L.length (flat cf L.length) (by rfl) ho (.slice (some ⟨w5.heap.size, 0, none⟩) 1 1) 1 [.int .i64 q.s.kind, .int .i64 p, .string q.s.name, .int .i64 q.s.arg, .slice ax q.s.cond.length cx, .slice ay q.s.expr.length cy, .slice az q.kids.length cz] (by rfl) hrow (by unfold maxLen; omega) (by omega) (by simp; omega) (w5.heap.size + 1) (by simp) ?_
        intro a9 c9 w9 hown9 hg9 hat9
        have hov := HOV.out
        have hx9 := (hg9.block (w.heap.size + 1) (by simp; omega) (fun e => by have := (hov _ e.symm).1; omega)).trans ((Below.heap_alloc _ _ _ zT5).trans hx5)
        have k9 : w9.cell? ⟨w.heap.size + 1, 6, none⟩ = some (.slice a7 L.length c7) := bcell hx9 6
        have fk9 := bfree hx9 6
        have s9 : w9.cell? ⟨bk, j, none⟩ = some (.int .i64 (m : Int)) := by have e : w9.heap[bk]? = _ := hg9.block bk (by simp; omega) (fun e => (by have := (hov _ e.symm).1; omega)); have s6' := s6; simp only [World.cell?, e] at s6' ⊢; exact s6'
        have l9 := hg9.size
        rw [World.size_alloc] at l9
        have zT9 : w.heap.size + 1 < w9.heap.size := by omega
        have HNEW := hid (grow_next HGW.out hlt (HTM.out) hb56 (RowB.append (m := [q]) ho hcf hdd hown9 hg9 (by rw [World.size_alloc]; exact hat9)) hg9 (fun b e => (hov b e).1) hx9 (by omega))
        refine hK.out _ _ s9 (fun hHeld => ?_)
        clear hK K
        try simp only [Act.put, List.setIfInBounds_toArray, List.set_cons_zero, List.set_cons_succ]
        refine wpAnyH_take (i := 10) (oi := { dst := some 32, op := Go.Op.fieldAddr 66 (Go.Operand.tmp 5) 1, type := 0, pos := "l07_block.go:18", after := #[{ on := 0, ground := Go.Ground.phase }, { on := 1, ground := Go.Ground.phase }, { on := 2, ground := Go.Ground.phase }, { on := 3, ground := Go.Ground.phase }, { on := 4, ground := Go.Ground.phase }, { on := 5, ground := Go.Ground.phase }, { on := 6, ground := Go.Ground.phase }, { on := 7, ground := Go.Ground.phase }, { on := 8, ground := Go.Ground.phase }, { on := 9, ground := Go.Ground.phase }], guard := none }) (v := .pointer (some ⟨w.heap.size + 1, 6, none⟩)) rfl (by kernel_rfl) (by kernel_rfl) (by kernel_rfl) (fun _ _ _ h => h) (Or.inl ⟨by rfl, by intro w hSw; (try dsimp only at hSw); go_simp⟩) (by assumption) ?_
        simp only [Act.put, List.setIfInBounds_toArray, List.set_cons_zero, List.set_cons_succ]
        refine wpAnyH_ready (rs := [11]) (by kernel_rfl) (by simp) ?_
        refine (AllReadyH.cons (o := { dst := none, op := Go.Op.store 64 (Go.Operand.tmp 32) (Go.Operand.tmp 31), type := 0, pos := "l07_block.go:18", after := #[{ on := 10, ground := Go.Ground.data }, { on := 9, ground := Go.Ground.data }, { on := 9, ground := Go.Ground.chain }, { on := 0, ground := Go.Ground.phase }, { on := 1, ground := Go.Ground.phase }, { on := 2, ground := Go.Ground.phase }, { on := 3, ground := Go.Ground.phase }, { on := 4, ground := Go.Ground.phase }, { on := 5, ground := Go.Ground.phase }, { on := 6, ground := Go.Ground.phase }, { on := 7, ground := Go.Ground.phase }, { on := 8, ground := Go.Ground.phase }, { on := 9, ground := Go.Ground.phase }], guard := none }) rfl (fun K hK => ?_) AllReadyH.nil)
        have s10 : (w9.setCell ⟨w.heap.size + 1, 6, none⟩ (.slice a9 (L.length + 1) c9)).cell? ⟨bk, j, none⟩ = some (.int .i64 (m : Int)) := by have e : (w9.setCell ⟨w.heap.size + 1, 6, none⟩ (.slice a9 (L.length + 1) c9)).heap[bk]? = w9.heap[bk]? := Below.heap_setCell _ _ _ _ (by dsimp only; omega); have s9' := s9; simp only [World.cell?, e] at s9' ⊢; exact s9'
        go_simp
        refine hK.out _ _ s10 (fun hHeld => ?_)
        clear hK K
        try simp only [Act.put, List.setIfInBounds_toArray, List.set_cons_zero, List.set_cons_succ]
        refine wpAnyH_done (by kernel_rfl) ?_ _
        clear hown9 hg9 hat9 hx9 k9 fk9 s9 s10 ho hcf hdd hrow hHeld hb5 hb6 hb56 hv2 hv3 hv4 hov hsx
        go_wp2
        exact ⟨⟨j + 1, by simp, by omega, hid ⟨_, _, _, HNEW.out⟩⟩, by simp [intOf]; omega⟩
      · go_simp
        go_at_call 33
        refine HCL.out.mono ?_
        rintro e w5 ⟨⟨v5, rfl, hv5⟩, hb5⟩
        obtain ⟨p, vcq, veq, vkq, rfl, hv2, hv3, hv4⟩ := hv5
        obtain ⟨ax, cx, rfl⟩ := hv2.slice
        obtain ⟨ay, cy, rfl⟩ := hv3.slice
        obtain ⟨az, cz, rfl⟩ := hv4.slice
        have l5 : wr.heap.size ≤ w5.heap.size := hb5.size
        have hx5 := (hb5.block (w.heap.size + 1) zT).trans hxx
        have k5 : w5.cell? ⟨w.heap.size + 1, 6, none⟩ = some (.slice a7 L.length c7) := bcell hx5 6
        have zT5 : w.heap.size + 1 < w5.heap.size := Nat.lt_of_lt_of_le zT l5
        have s5 : w5.cell? ⟨bk, j, none⟩ = some (.int .i64 (m : Int)) := (hb5.cell (p := ⟨bk, j, none⟩) zb).trans s0
        have zb5 : bk < w5.heap.size := Nat.lt_of_lt_of_le zb l5
        go_wp2_with fail
        refine hK.out _ _ s5 (fun hHeld => ?_)
        clear hK K
        try simp only [Act.put, List.setIfInBounds_toArray, List.set_cons_zero, List.set_cons_succ]
        refine wpAnyH_ready (rs := [1, 8]) (by kernel_rfl) (by simp) ?_
        refine (AllReadyH.cons (o := { dst := some 23, op := Go.Op.load 64 (Go.Operand.tmp 22), type := 64, pos := "l07_block.go:18", after := #[{ on := 0, ground := Go.Ground.data }], guard := none }) rfl (fun K hK => ?_) (AllReadyH.cons (o := { dst := some 30, op := Go.Op.buildSlice 64 1 #[(0, Go.Operand.tmp 29)], type := 64, pos := "l07_block.go:18", after := #[{ on := 7, ground := Go.Ground.data }], guard := none }) rfl (fun K hK => ?_) AllReadyH.nil))
        · go_simp
          refine hK.out _ _ s5 (fun hHeld => ?_)
          clear hK K
          try simp only [Act.put, List.setIfInBounds_toArray, List.set_cons_zero, List.set_cons_succ]
          refine wpAnyH_ready (rs := [8]) (by kernel_rfl) (by simp) ?_
          refine (AllReadyH.cons (o := { dst := some 30, op := Go.Op.buildSlice 64 1 #[(0, Go.Operand.tmp 29)], type := 64, pos := "l07_block.go:18", after := #[{ on := 7, ground := Go.Ground.data }], guard := none }) rfl (fun K hK => ?_) AllReadyH.nil)
          have s6 : (w5.alloc (.cells #[.int .i64 q.s.kind, .int .i64 p, .string q.s.name, .int .i64 q.s.arg, .slice ax q.s.cond.length cx, .slice ay q.s.expr.length cy, .slice az q.kids.length cz] 66)).cell? ⟨bk, j, none⟩ = some (.int .i64 (m : Int)) := (((Below.refl _ w5).alloc (Nat.le_refl _) _).cell (p := ⟨bk, j, none⟩) zb5).trans s5
          go_simp
          refine hK.out _ _ s6 (fun hHeld => ?_)
          clear hK K
          try simp only [Act.put, List.setIfInBounds_toArray, List.set_cons_zero, List.set_cons_succ]
          refine wpAnyH_ready (rs := [9]) (by kernel_rfl) (by simp) ?_
          refine (AllReadyH.cons (o := { dst := some 31, op := Go.Op.call { callee := Go.Callee.builtin Go.Builtin.append, args := #[Go.Operand.tmp 23, Go.Operand.tmp 30], argTypes := #[64, 64] }, type := 64, pos := "l07_block.go:18", after := #[{ on := 1, ground := Go.Ground.data }, { on := 8, ground := Go.Ground.data }, { on := 7, ground := Go.Ground.chain }], guard := none }) rfl (fun K hK => ?_) AllReadyH.nil)
          have hb6 : Below w5.heap.size w5 (w5.alloc (.cells #[.int .i64 q.s.kind, .int .i64 p, .string q.s.name, .int .i64 q.s.arg, .slice ax q.s.cond.length cx, .slice ay q.s.expr.length cy, .slice az q.kids.length cz] 66)) := (Below.refl _ w5).alloc (Nat.le_refl _) _
          have hb56 := ((Below.refl _ wr).drew.trans hb5).trans (hb6.mono l5)
          obtain ⟨cf, ho, hcf⟩ := HROW.out.below hb56
          have hsx : ∀ b, Or' (Old wp) wr.heap.size b → Sx (Old wp) w3.heap.size (.slice a7 L.length c7) b := HSX.out
          have hdd : ∀ i (h : i < [q].length), C7 (Sx (Old wp) w3.heap.size (.slice a7 L.length c7)) (w5.alloc (.cells #[.int .i64 q.s.kind, .int .i64 p, .string q.s.name, .int .i64 q.s.arg, .slice ax q.s.cond.length cx, .slice ay q.s.expr.length cy, .slice az q.kids.length cz] 66)) (KAt (Sx (Old wp) w3.heap.size (.slice a7 L.length c7)) f (w5.alloc (.cells #[.int .i64 q.s.kind, .int .i64 p, .string q.s.name, .int .i64 q.s.arg, .slice ax q.s.cond.length cx, .slice ay q.s.expr.length cy, .slice az q.kids.length cz] 66))) ((fun _ => [.int .i64 q.s.kind, .int .i64 p, .string q.s.name, .int .i64 q.s.arg, .slice ax q.s.cond.length cx, .slice ay q.s.expr.length cy, .slice az q.kids.length cz]) i) [q][i] := fun i h => by obtain rfl : i = 0 := (by simpa using h); exact ⟨p, _, _, _, rfl, (hv2.below hb6).mono (fun b _ hb => hsx b hb), (hv3.below hb6).mono (fun b _ hb => hsx b hb), KAt.mono (fun b _ hb => hsx b hb) f (hv4.below hb6)⟩
          have hrow : Ap.Row (w5.alloc (.cells #[.int .i64 q.s.kind, .int .i64 p, .string q.s.name, .int .i64 q.s.arg, .slice ax q.s.cond.length cx, .slice ay q.s.expr.length cy, .slice az q.kids.length cz] 66)) 7 (.slice (some ⟨w5.heap.size, 0, none⟩) 1 1) 1 [.int .i64 q.s.kind, .int .i64 p, .string q.s.name, .int .i64 q.s.arg, .slice ax q.s.cond.length cx, .slice ay q.s.expr.length cy, .slice az q.kids.length cz] := ⟨_, _, rfl, rfl, (by simp [Value.oneCell']), .inr ⟨_, rfl, seven _ rfl _ _ _ _ _ _ _ _⟩⟩
          have hl24 : L.length + 1 ≤ 1000 := by omega
          refine Ap.step_any _ (by rfl) _ _ 64 (by rfl) w3.heap.size 66 i0 (.agg #[.int .i64 0, .int .i64 0, .string { data := #[] }, .int .i64 0, .slice none 0 0, .slice none 0 0, .slice none 0 0]) 7 112 Tryd.underlying64 hi0 hz0 hz1 hz2 rfl (by decide) (.slice a7 L.length c7) L.length (flat cf L.length) (by rfl) ho (.slice (some ⟨w5.heap.size, 0, none⟩) 1 1) 1 [.int .i64 q.s.kind, .int .i64 p, .string q.s.name, .int .i64 q.s.arg, .slice ax q.s.cond.length cx, .slice ay q.s.expr.length cy, .slice az q.kids.length cz] (by rfl) hrow (by unfold maxLen; omega) (by omega) (by simp; omega) (w5.heap.size + 1) (by simp) ?_
          intro a9 c9 w9 hown9 hg9 hat9
          have hov := HOV.out
          have hx9 := (hg9.block (w.heap.size + 1) (by simp; omega) (fun e => by have := (hov _ e.symm).1; omega)).trans ((Below.heap_alloc _ _ _ zT5).trans hx5)
          have k9 : w9.cell? ⟨w.heap.size + 1, 6, none⟩ = some (.slice a7 L.length c7) := bcell hx9 6
          have fk9 := bfree hx9 6
          have s9 : w9.cell? ⟨bk, j, none⟩ = some (.int .i64 (m : Int)) := by have e : w9.heap[bk]? = _ := hg9.block bk (by simp; omega) (fun e => (by have := (hov _ e.symm).1; omega)); have s6' := s6; simp only [World.cell?, e] at s6' ⊢; exact s6'
          have l9 := hg9.size
          rw [World.size_alloc] at l9
          have zT9 : w.heap.size + 1 < w9.heap.size := by omega
          have HNEW := hid (grow_next HGW.out hlt (HTM.out) hb56 (RowB.append (m := [q]) ho hcf hdd hown9 hg9 (by rw [World.size_alloc]; exact hat9)) hg9 (fun b e => (hov b e).1) hx9 (by omega))
          refine hK.out _ _ s9 (fun hHeld => ?_)
          clear hK K
          try simp only [Act.put, List.setIfInBounds_toArray, List.set_cons_zero, List.set_cons_succ]
          refine wpAnyH_take (i := 10) (oi := { dst := some 32, op := Go.Op.fieldAddr 66 (Go.Operand.tmp 5) 1, type := 0, pos := "l07_block.go:18", after := #[{ on := 0, ground := Go.Ground.phase }, { on := 1, ground := Go.Ground.phase }, { on := 2, ground := Go.Ground.phase }, { on := 3, ground := Go.Ground.phase }, { on := 4, ground := Go.Ground.phase }, { on := 5, ground := Go.Ground.phase }, { on := 6, ground := Go.Ground.phase }, { on := 7, ground := Go.Ground.phase }, { on := 8, ground := Go.Ground.phase }, { on := 9, ground := Go.Ground.phase }], guard := none }) (v := .pointer (some ⟨w.heap.size + 1, 6, none⟩)) rfl (by kernel_rfl) (by kernel_rfl) (by kernel_rfl) (fun _ _ _ h => h) (Or.inl ⟨by rfl, by intro w hSw; (try dsimp only at hSw); go_simp⟩) (by assumption) ?_
          simp only [Act.put, List.setIfInBounds_toArray, List.set_cons_zero, List.set_cons_succ]
          refine wpAnyH_ready (rs := [11]) (by kernel_rfl) (by simp) ?_
          refine (AllReadyH.cons (o := { dst := none, op := Go.Op.store 64 (Go.Operand.tmp 32) (Go.Operand.tmp 31), type := 0, pos := "l07_block.go:18", after := #[{ on := 10, ground := Go.Ground.data }, { on := 9, ground := Go.Ground.data }, { on := 9, ground := Go.Ground.chain }, { on := 0, ground := Go.Ground.phase }, { on := 1, ground := Go.Ground.phase }, { on := 2, ground := Go.Ground.phase }, { on := 3, ground := Go.Ground.phase }, { on := 4, ground := Go.Ground.phase }, { on := 5, ground := Go.Ground.phase }, { on := 6, ground := Go.Ground.phase }, { on := 7, ground := Go.Ground.phase }, { on := 8, ground := Go.Ground.phase }, { on := 9, ground := Go.Ground.phase }], guard := none }) rfl (fun K hK => ?_) AllReadyH.nil)
          have s10 : (w9.setCell ⟨w.heap.size + 1, 6, none⟩ (.slice a9 (L.length + 1) c9)).cell? ⟨bk, j, none⟩ = some (.int .i64 (m : Int)) := by have e : (w9.setCell ⟨w.heap.size + 1, 6, none⟩ (.slice a9 (L.length + 1) c9)).heap[bk]? = w9.heap[bk]? := Below.heap_setCell _ _ _ _ (by dsimp only; omega); have s9' := s9; simp only [World.cell?, e] at s9' ⊢; exact s9'
          go_simp
          refine hK.out _ _ s10 (fun hHeld => ?_)
          clear hK K
          try simp only [Act.put, List.setIfInBounds_toArray, List.set_cons_zero, List.set_cons_succ]
          refine wpAnyH_done (by kernel_rfl) ?_ _
          clear hown9 hg9 hat9 hx9 k9 fk9 s9 s10 ho hcf hdd hrow hHeld hb5 hb6 hb56 hv2 hv3 hv4 hov hsx
          go_wp2
          exact ⟨⟨j + 1, by simp, by omega, hid ⟨_, _, _, HNEW.out⟩⟩, by simp [intOf]; omega⟩
        · have s6 : (w5.alloc (.cells #[.int .i64 q.s.kind, .int .i64 p, .string q.s.name, .int .i64 q.s.arg, .slice ax q.s.cond.length cx, .slice ay q.s.expr.length cy, .slice az q.kids.length cz] 66)).cell? ⟨bk, j, none⟩ = some (.int .i64 (m : Int)) := (((Below.refl _ w5).alloc (Nat.le_refl _) _).cell (p := ⟨bk, j, none⟩) zb5).trans s5
          go_simp
          refine hK.out _ _ s6 (fun hHeld => ?_)
          clear hK K
          try simp only [Act.put, List.setIfInBounds_toArray, List.set_cons_zero, List.set_cons_succ]
          refine wpAnyH_ready (rs := [1]) (by kernel_rfl) (by simp) ?_
          refine (AllReadyH.cons (o := { dst := some 23, op := Go.Op.load 64 (Go.Operand.tmp 22), type := 64, pos := "l07_block.go:18", after := #[{ on := 0, ground := Go.Ground.data }], guard := none }) rfl (fun K hK => ?_) AllReadyH.nil)
          go_simp
          refine hK.out _ _ s6 (fun hHeld => ?_)
          clear hK K
          try simp only [Act.put, List.setIfInBounds_toArray, List.set_cons_zero, List.set_cons_succ]
          refine wpAnyH_ready (rs := [9]) (by kernel_rfl) (by simp) ?_
          refine (AllReadyH.cons (o := { dst := some 31, op := Go.Op.call { callee := Go.Callee.builtin Go.Builtin.append, args := #[Go.Operand.tmp 23, Go.Operand.tmp 30], argTypes := #[64, 64] }, type := 64, pos := "l07_block.go:18", after := #[{ on := 1, ground := Go.Ground.data }, { on := 8, ground := Go.Ground.data }, { on := 7, ground := Go.Ground.chain }], guard := none }) rfl (fun K hK => ?_) AllReadyH.nil)
          have hb6 : Below w5.heap.size w5 (w5.alloc (.cells #[.int .i64 q.s.kind, .int .i64 p, .string q.s.name, .int .i64 q.s.arg, .slice ax q.s.cond.length cx, .slice ay q.s.expr.length cy, .slice az q.kids.length cz] 66)) := (Below.refl _ w5).alloc (Nat.le_refl _) _
          have hb56 := ((Below.refl _ wr).drew.trans hb5).trans (hb6.mono l5)
          obtain ⟨cf, ho, hcf⟩ := HROW.out.below hb56
          have hsx : ∀ b, Or' (Old wp) wr.heap.size b → Sx (Old wp) w3.heap.size (.slice a7 L.length c7) b := HSX.out
          have hdd : ∀ i (h : i < [q].length), C7 (Sx (Old wp) w3.heap.size (.slice a7 L.length c7)) (w5.alloc (.cells #[.int .i64 q.s.kind, .int .i64 p, .string q.s.name, .int .i64 q.s.arg, .slice ax q.s.cond.length cx, .slice ay q.s.expr.length cy, .slice az q.kids.length cz] 66)) (KAt (Sx (Old wp) w3.heap.size (.slice a7 L.length c7)) f (w5.alloc (.cells #[.int .i64 q.s.kind, .int .i64 p, .string q.s.name, .int .i64 q.s.arg, .slice ax q.s.cond.length cx, .slice ay q.s.expr.length cy, .slice az q.kids.length cz] 66))) ((fun _ => [.int .i64 q.s.kind, .int .i64 p, .string q.s.name, .int .i64 q.s.arg, .slice ax q.s.cond.length cx, .slice ay q.s.expr.length cy, .slice az q.kids.length cz]) i) [q][i] := fun i h => by obtain rfl : i = 0 := (by simpa using h); exact ⟨p, _, _, _, rfl, (hv2.below hb6).mono (fun b _ hb => hsx b hb), (hv3.below hb6).mono (fun b _ hb => hsx b hb), KAt.mono (fun b _ hb => hsx b hb) f (hv4.below hb6)⟩
          have hrow : Ap.Row (w5.alloc (.cells #[.int .i64 q.s.kind, .int .i64 p, .string q.s.name, .int .i64 q.s.arg, .slice ax q.s.cond.length cx, .slice ay q.s.expr.length cy, .slice az q.kids.length cz] 66)) 7 (.slice (some ⟨w5.heap.size, 0, none⟩) 1 1) 1 [.int .i64 q.s.kind, .int .i64 p, .string q.s.name, .int .i64 q.s.arg, .slice ax q.s.cond.length cx, .slice ay q.s.expr.length cy, .slice az q.kids.length cz] := ⟨_, _, rfl, rfl, (by simp [Value.oneCell']), .inr ⟨_, rfl, seven _ rfl _ _ _ _ _ _ _ _⟩⟩
          have hl24 : L.length + 1 ≤ 1000 := by omega
          refine Ap.step_any _ (by rfl) _ _ 64 (by rfl) w3.heap.size 66 i0 (.agg #[.int .i64 0, .int .i64 0, .string { data := #[] }, .int .i64 0, .slice none 0 0, .slice none 0 0, .slice none 0 0]) 7 112 Tryd.underlying64 hi0 hz0 hz1 hz2 rfl (by decide) (.slice a7 L.length c7) L.length (flat cf L.length) (by rfl) ho (.slice (some ⟨w5.heap.size, 0, none⟩) 1 1) 1 [.int .i64 q.s.kind, .int .i64 p, .string q.s.name, .int .i64 q.s.arg, .slice ax q.s.cond.length cx, .slice ay q.s.expr.length cy, .slice az q.kids.length cz] (by rfl) hrow (by unfold maxLen; omega) (by omega) (by simp; omega) (w5.heap.size + 1) (by simp) ?_
          intro a9 c9 w9 hown9 hg9 hat9
          have hov := HOV.out
          have hx9 := (hg9.block (w.heap.size + 1) (by simp; omega) (fun e => by have := (hov _ e.symm).1; omega)).trans ((Below.heap_alloc _ _ _ zT5).trans hx5)
          have k9 : w9.cell? ⟨w.heap.size + 1, 6, none⟩ = some (.slice a7 L.length c7) := bcell hx9 6
          have fk9 := bfree hx9 6
          have s9 : w9.cell? ⟨bk, j, none⟩ = some (.int .i64 (m : Int)) := by have e : w9.heap[bk]? = _ := hg9.block bk (by simp; omega) (fun e => (by have := (hov _ e.symm).1; omega)); have s6' := s6; simp only [World.cell?, e] at s6' ⊢; exact s6'
          have l9 := hg9.size
          rw [World.size_alloc] at l9
          have zT9 : w.heap.size + 1 < w9.heap.size := by omega
          have HNEW := hid (grow_next HGW.out hlt (HTM.out) hb56 (RowB.append (m := [q]) ho hcf hdd hown9 hg9 (by rw [World.size_alloc]; exact hat9)) hg9 (fun b e => (hov b e).1) hx9 (by omega))
          refine hK.out _ _ s9 (fun hHeld => ?_)
          clear hK K
          try simp only [Act.put, List.setIfInBounds_toArray, List.set_cons_zero, List.set_cons_succ]
          refine wpAnyH_take (i := 10) (oi := { dst := some 32, op := Go.Op.fieldAddr 66 (Go.Operand.tmp 5) 1, type := 0, pos := "l07_block.go:18", after := #[{ on := 0, ground := Go.Ground.phase }, { on := 1, ground := Go.Ground.phase }, { on := 2, ground := Go.Ground.phase }, { on := 3, ground := Go.Ground.phase }, { on := 4, ground := Go.Ground.phase }, { on := 5, ground := Go.Ground.phase }, { on := 6, ground := Go.Ground.phase }, { on := 7, ground := Go.Ground.phase }, { on := 8, ground := Go.Ground.phase }, { on := 9, ground := Go.Ground.phase }], guard := none }) (v := .pointer (some ⟨w.heap.size + 1, 6, none⟩)) rfl (by kernel_rfl) (by kernel_rfl) (by kernel_rfl) (fun _ _ _ h => h) (Or.inl ⟨by rfl, by intro w hSw; (try dsimp only at hSw); go_simp⟩) (by assumption) ?_
          simp only [Act.put, List.setIfInBounds_toArray, List.set_cons_zero, List.set_cons_succ]
          refine wpAnyH_ready (rs := [11]) (by kernel_rfl) (by simp) ?_
          refine (AllReadyH.cons (o := { dst := none, op := Go.Op.store 64 (Go.Operand.tmp 32) (Go.Operand.tmp 31), type := 0, pos := "l07_block.go:18", after := #[{ on := 10, ground := Go.Ground.data }, { on := 9, ground := Go.Ground.data }, { on := 9, ground := Go.Ground.chain }, { on := 0, ground := Go.Ground.phase }, { on := 1, ground := Go.Ground.phase }, { on := 2, ground := Go.Ground.phase }, { on := 3, ground := Go.Ground.phase }, { on := 4, ground := Go.Ground.phase }, { on := 5, ground := Go.Ground.phase }, { on := 6, ground := Go.Ground.phase }, { on := 7, ground := Go.Ground.phase }, { on := 8, ground := Go.Ground.phase }, { on := 9, ground := Go.Ground.phase }], guard := none }) rfl (fun K hK => ?_) AllReadyH.nil)
          have s10 : (w9.setCell ⟨w.heap.size + 1, 6, none⟩ (.slice a9 (L.length + 1) c9)).cell? ⟨bk, j, none⟩ = some (.int .i64 (m : Int)) := by have e : (w9.setCell ⟨w.heap.size + 1, 6, none⟩ (.slice a9 (L.length + 1) c9)).heap[bk]? = w9.heap[bk]? := Below.heap_setCell _ _ _ _ (by dsimp only; omega); have s9' := s9; simp only [World.cell?, e] at s9' ⊢; exact s9'
          go_simp
          refine hK.out _ _ s10 (fun hHeld => ?_)
          clear hK K
          try simp only [Act.put, List.setIfInBounds_toArray, List.set_cons_zero, List.set_cons_succ]
          refine wpAnyH_done (by kernel_rfl) ?_ _
          clear hown9 hg9 hat9 hx9 k9 fk9 s9 s10 ho hcf hdd hrow hHeld hb5 hb6 hb56 hv2 hv3 hv4 hov hsx
          go_wp2
          exact ⟨⟨j + 1, by simp, by omega, hid ⟨_, _, _, HNEW.out⟩⟩, by simp [intOf]; omega⟩
    · have q2 : ¬ (j : Int) < (ks.length : Int) := by omega
      have hjn : j = ks.length := by omega
      subst hjn
      have HD := hid (by have := hG.row.done; rw [List.take_length] at this; exact this)
      have hxx := hG.blk
      have x0 : wr.cell? ⟨w.heap.size + 1, 0, none⟩ = some (.int .i64 ss[k].kind) := bcell hxx 0
      have x1 : wr.cell? ⟨w.heap.size + 1, 1, none⟩ = some (.int .i64 ss[k].parent) := bcell hxx 1
      have x2 : wr.cell? ⟨w.heap.size + 1, 2, none⟩ = some (.string ss[k].name) := bcell hxx 2
      have x3 : wr.cell? ⟨w.heap.size + 1, 3, none⟩ = some (.int .i64 ss[k].arg) := bcell hxx 3
      have x4 : wr.cell? ⟨w.heap.size + 1, 4, none⟩ = some (.slice ac ss[k].cond.length cc) := bcell hxx 4
      have x5 : wr.cell? ⟨w.heap.size + 1, 5, none⟩ = some (.slice ae ss[k].expr.length ce) := bcell hxx 5
      have x6 : wr.cell? ⟨w.heap.size + 1, 6, none⟩ = some (.slice a7 n7 c7) := bcell hxx 6
      have hrr := (hG.bel.block w.heap.size (by omega)).trans HR0.out
      have zl : w.heap.size < wr.heap.size := by omega
      have l33 := hG.size
      have l3T := hG.lt.1
      have HBW := hid (HB0.out.trans (hG.bel.mono (by omega)))
      have HCO := hid (nds_old HVC.out HBR.out)
      have HEX := hid (nds_old HVE.out HBR.out)
      have z0 : wr.cell? ⟨w.heap.size, 0, none⟩ = some (.int .i64 0) := bcell hrr 0
      have z1 : wr.cell? ⟨w.heap.size, 1, none⟩ = some (.int .i64 0) := bcell hrr 1
      have z2 : wr.cell? ⟨w.heap.size, 2, none⟩ = some (.string { data := #[] }) := bcell hrr 2
      have z3 : wr.cell? ⟨w.heap.size, 3, none⟩ = some (.int .i64 0) := bcell hrr 3
      have z4 : wr.cell? ⟨w.heap.size, 4, none⟩ = some (.slice none 0 0) := bcell hrr 4
      have z5 : wr.cell? ⟨w.heap.size, 5, none⟩ = some (.slice none 0 0) := bcell hrr 5
      have z6 : wr.cell? ⟨w.heap.size, 6, none⟩ = some (.slice none 0 0) := bcell hrr 6
      have f0 := bfree hrr 0
      have f1 := bfree hrr 1
      have f2 := bfree hrr 2
      have f3 := bfree hrr 3
      have f4 := bfree hrr 4
      have f5 := bfree hrr 5
      have f6 := bfree hrr 6
      clear HX hG
      go_wp2
      refine bodyPost_ret (results_cell_row Tryd.results33 _ _ w.heap.size 66 #[.int .i64 ss[k].kind, .int .i64 ss[k].parent, .string ss[k].name, .int .i64 ss[k].arg, .slice ac ss[k].cond.length cc, .slice ae ss[k].expr.length ce, .slice a7 n7 c7] (0, 0) _ rfl (set7 hrr _ _ _ _ _ _ _) Tryd.underlying66 rfl (by rw [hi0]; simp [hz1])) rfl ⟨⟨_, rfl, ?_⟩, below7 HBW.out (Nat.le_refl _) _ _ _ _ _ _ _⟩
      rw [HGT.out]
      refine bv_fin (S := Or' (Old wp) w3.heap.size) (t := ⟨ss[k], ks.map (gT ss f)⟩) (kp7 (Kp.refl _ wr) (fun h2 => ?_) _ _ _ _ _ _ _) (HCO.out.mono (fun b _ hb => .inl hb)) (HEX.out.mono (fun b _ hb => .inl hb)) HD.out (fun b hb => ?_)
      · rcases h2 with h2 | h2
        · unfold Old at h2; omega
        · omega
      · rcases hb with h2 | h2
        · exact .inl h2
        · exact .inr (by omega)
theorem grow_all {ss : List StepD} {v : Value} {wp : World} {B0 : Nat} (hpf : pFault ss = 0) (hl : ss.length ≤ 24) (ha : St.At wp B0 v ss) : ∀ f, SGrow ss v wp f
  | 0 => fun k hk w hb hd => absurd hd (by have := deep_le hpf hk; omega)
  | f + 1 => growStep ss v wp f B0 hpf hl ha (grow_all hpf hl ha f)
end Bk
end Go.Proofs.YtedgobdnjemegaaDoor
