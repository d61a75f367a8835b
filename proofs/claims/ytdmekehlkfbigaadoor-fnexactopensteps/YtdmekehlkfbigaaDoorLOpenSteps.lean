/- Whatever list of steps and chart are handed in, OpenSteps answers as the specification's OpenSteps does, in code and in places, its list owns its memory, behind another call too, and both read afterwards as before. Condition, tied to the program's own text: the table of rules holds what its initialiser lays. -/
import Derived.Test.YtdmekehlkfbigaaDoorJOpenSteps6
import Derived.Test.YtdmekehlkfbigaaDoorJOpenSteps20
import Derived.Test.YtdmekehlkfbigaaDoorJOpenSteps21
import Derived.Test.YtdmekehlkfbigaaDoorJOpenSteps22
import Derived.Test.YtdmekehlkfbigaaDoorJOpenSteps24
import Derived.Test.YtdmekehlkfbigaaDoorJOpenSteps43
import Derived.Deep.RegionHeld3
import Derived.Deep.Cut
namespace Go.Proofs.YtdmekehlkfbigaaDoor
open Go.ChangeShapes Go.WideShapes Go.ChangeAt Go.RowKit Go.Deep
open Go.ChangeMaps (open_string shut_string)
set_option linter.unusedVariables false
set_option linter.unusedSimpArgs false
namespace KoL
open Ex (hid)
open Pf St
open Ch (RunD)
open Ints (vals IntsAt marksTo)
open Kc (chartC openL openL_len implOpenSteps)
open Ks (specOpenSteps)
theorem blk_below {w w' : World} {b : Nat} {o : Obj} (h : w.heap[b]? = some o) (hb : Below w.heap.size w w') : w'.heap[b]? = some o := (hb.block b (Ch.blk_lt h)).trans h
theorem blk_amid {w w' : World} {b B C : Nat} {o : Obj} (h : w.heap[b]? = some o) (hb : Amid w w' B C) (ho : b < B ∨ C ≤ b) : w'.heap[b]? = some o := (hb.block b (Ch.blk_lt h) ho).trans h
theorem blk_grown {w w' : World} {b : Nat} {o : Obj} {row : Option Nat} (h : w.heap[b]? = some o) (hb : w.grownBy w' row) (ho : row ≠ some b) : w'.heap[b]? = some o := (hb.block b (Ch.blk_lt h) (fun e => ho e.symm)).trans h
theorem amid_own {w w' : World} {B C B0 n : Nat} {v : Value} {xs : List Value} (h : Amid w w' B C) (ho : w.ownsRow B0 2 1 v n xs) (hb : ∀ b, Pt.own v b → b < B ∨ C ≤ b) : w'.ownsRow B0 2 1 v n xs := by
  refine ⟨ho.1, ?_⟩
  rcases ho.2 with hn | ⟨g, cap, cur, rfl, hbg, hg, rest⟩
  · exact .inl hn
  · exact .inr ⟨g, cap, cur, rfl, hbg, by rw [h.block g (Array.getElem?_eq_some_iff.1 hg).1 (hb g rfl)]; exact hg, rest⟩
theorem len_marks (n : Nat) : (marksTo n).length = n := Ints.marksTo_len n
theorem lensC {es : List StepD} (h : St.Small 1048576 es) : ∀ j, j < es.length → lenC es j ≤ 1048576 := fun j hj => by
  rw [lenC_eq hj]
  have := (h.at hj).2.1
  omega
theorem lensE {es : List StepD} (h : St.Small 1048576 es) : ∀ j, j < es.length → lenE es j ≤ 1048576 := fun j hj => by
  rw [lenE_eq hj]
  have := (h.at hj).2.2
  omega
/-- An answer in a variable: its block, its list, where that lies. -/
structure Res (wB wx : World) (p : Nat) (s : Value) (cc : Int) (xs : List Int) : Prop where
  lo : wB.heap.size ≤ p
  blk : wx.heap[p]? = some (.cells #[.int .i64 cc, s] 37)
  lst : IntsAt wx s xs
  own : ∀ b, Pt.own s b → wB.heap.size ≤ b ∧ b < wx.heap.size
  bel : Below wB.heap.size wB wx
theorem res_store {wB q : World} {p : Nat} {s : Value} {cc : Int} {xs : List Int} (hB : Below wB.heap.size wB q) (hp : wB.heap.size ≤ p) (hPA : q.heap[p]? = some (.cells #[.int .i64 0, .slice none 0 0] 37)) (hI : IntsAt q s xs) (ho : ∀ b, Pt.own s b → wB.heap.size ≤ b ∧ b < q.heap.size ∧ b ≠ p) :
    Res wB ((q.setCell ⟨p, 0, none⟩ (.int .i64 cc)).setCell ⟨p, 1, none⟩ s) p s cc xs := by
  have e : ∀ b, b ≠ p → ((q.setCell ⟨p, 0, none⟩ (.int .i64 cc)).setCell ⟨p, 1, none⟩ s).heap[b]? = q.heap[b]? := fun b hb => (Below.heap_setCell _ _ _ _ hb).trans (Below.heap_setCell _ _ _ _ hb)
  have sz : ((q.setCell ⟨p, 0, none⟩ (.int .i64 cc)).setCell ⟨p, 1, none⟩ s).heap.size = q.heap.size := by simp [World.setCell]
  refine ⟨hp, ?_, hI.kept (by rw [sz]; exact Nat.le_refl _) (fun b hb _ => e b (ho b hb).2.2), fun b hb => ⟨(ho b hb).1, by rw [sz]; exact (ho b hb).2.1⟩, (hB.setCell (p := ⟨p, 0, none⟩) hp _).setCell (p := ⟨p, 1, none⟩) hp _⟩
  have := Ch.blk_set (i := 1) (Ch.blk_set (i := 0) hPA (.int .i64 cc)) s
  simpa using this
theorem new_below (w : World) (o : Obj) : Below w.heap.size w (w.alloc o) := (Below.refl _ w).alloc (Nat.le_refl _) _
set_option maxRecDepth 100000 in
set_option maxHeartbeats 32000000 in
theorem walk (l : List StepD) (v : Value) (r : RunD) (v1 v2 v3 : Value) (w : World) (hl : l.length ≤ maxLen) (kl : St.Ok l) (kr : Ch.Ok r) (h1 : St.At w 0 v l) (h2 : Ch.At w 0 v1 v2 v3 r) (hr : Rul w) :
    Calls Tryd.prog 4 #[v, .agg #[.int .i64 r.status, .int .i64 r.now, v1, v2, v3]] w fun e w' => e = .returned (.bool true) ∧ Below w.heap.size w w' := by
  have hgl := hr.lt
  obtain ⟨b0, k0, rfl⟩ := h1.slice
  obtain ⟨a1, c1, rfl⟩ := h2.vars.slice
  obtain ⟨a2, c2, rfl⟩ := h2.marks.slice
  obtain ⟨a3, c3, rfl⟩ := h2.dues.slice
  obtain ⟨w0, e0⟩ : ∃ w0, w0 = w.alloc (.cells #[.int .i64 r.status, .int .i64 r.now, .slice a1 r.vars.length c1, .slice a2 r.marks.length c2, .slice a3 r.dues.length c3] 25) := ⟨_, rfl⟩
  have hb0 : Below w.heap.size w w0 := by rw [e0]; exact (Below.refl _ w).alloc (Nat.le_refl _) _
  have hk0 : w0.heap[w.heap.size]? = some (.cells #[.int .i64 r.status, .int .i64 r.now, .slice a1 r.vars.length c1, .slice a2 r.marks.length c2, .slice a3 r.dues.length c3] 25) := by rw [e0]; exact Ch.new_blk _ _
  have HZ1 := hid (szS 0 l _ 1048576 w0 (by omega) (by omega) hl kl (h1.below hb0))
  have H1 := hid h1
  have H2 := hid h2
  have HR := hid hr
  have HKR := hid kr
  have HB0 := hid hb0
  clear h1 h2 hl kl kr hr hb0
  go_enter Tryd.func4, Tryd.ntmps4
  go_wp2_with fail
  rw [← e0]
  clear e0
  refine HZ1.out.mono ?_
  rintro e w1 ⟨⟨r1, rfl, r1a, r1b, r1c⟩, hb1⟩
  have HB1 := hid (HB0.out.trans (hb1.mono HB0.out.size))
  have hk1 : w1.heap[w.heap.size]? = some (.cells #[.int .i64 r.status, .int .i64 r.now, .slice a1 r.vars.length c1, .slice a2 r.marks.length c2, .slice a3 r.dues.length c3] 25) := blk_below hk0 hb1
  clear hb1 hk0 HZ1 HB0
  by_cases q1 : r1 < 0
  · go_wp2
    go_ret
    exact ⟨rfl, HB1.out⟩
  have S1 := hid (r1c (by omega))
  clear r1c
  have d0 := Ch.blk_cell hk1 0
  have d1 := Ch.blk_cell hk1 1
  have d2 := Ch.blk_cell hk1 2
  have d3 := Ch.blk_cell hk1 3
  have d4 := Ch.blk_cell hk1 4
  have HZ2 := hid (Ch.sz 0 r _ _ _ r1 w1 (by omega) (by omega) HKR.out (H2.out.below HB1.out))
  have HK1 := hid hk1
  clear hk1
  go_wp2_with fail
  refine HZ2.out.mono ?_
  rintro e w2 ⟨⟨r2, rfl, r2a, r2b, r2c⟩, hb2⟩
  have HB2 := hid (HB1.out.trans (hb2.mono HB1.out.size))
  have HK2 : Hid (w2.heap[w.heap.size]? = some (.cells #[.int .i64 r.status, .int .i64 r.now, .slice a1 r.vars.length c1, .slice a2 r.marks.length c2, .slice a3 r.dues.length c3] 25)) := hid (blk_below HK1.out hb2)
  clear hb2 HK1 HZ2 d0 d1 d2 d3 d4 HB1
  by_cases q2 : r2 < 0
  · go_wp2
    go_ret
    exact ⟨rfl, HB2.out⟩
  have S2 := hid ((r2c (by omega)).mono r1b)
  clear r2c
  have hln := S1.out.1
  have hkl := openL_len (ss := l) (r := r)
  have HT1 := hid (fun w' (hb : Below w.heap.size w w') => toS 0 l _ w' S1.out (H1.out.below hb))
  have HT2 := hid (fun w' (hb : Below w.heap.size w w') => toS2 0 l _ w' S1.out (H1.out.below hb))
  have HC1 := hid (fun w' (hb : Below w.heap.size w w') => Ch.to1 0 r _ _ _ w' S2.out (H2.out.below hb))
  have HC2 := hid (fun w' (hb : Below w.heap.size w w') => Ch.to2 0 r _ _ _ w' S2.out (H2.out.below hb))
  have HIK := hid (fun u u1 u2 u3 w' (hb : Below w.heap.size w w') (hu : St.At w' 0 u l) (hc : Ch.At w' 0 u1 u2 u3 r) => implOpenSteps l r u u1 u2 u3 w' S1.out S2.out hu hc (HR.out.below hb hgl))
  have HSK := hid (fun B u u1 u2 u3 w' (hu : St.At w' B u l) (hc : Ch.At w' 0 u1 u2 u3 r) => specOpenSteps B l r u u1 u2 u3 w' S1.out S2.out hu hc)
  clear H1 H2
  generalize hcc : chartC l r = cc at *
  generalize hxx : openL l r = xs at *
  clear hcc hxx
  have hxl : xs.length ≤ 1048576 := by omega
  have HK2d : Hid (w2.drew.heap[w.heap.size]? = some (.cells #[.int .i64 r.status, .int .i64 r.now, .slice a1 r.vars.length c1, .slice a2 r.marks.length c2, .slice a3 r.dues.length c3] 25)) := hid HK2.out
  have HB2d := hid HB2.out.drew
  have HKB : Hid (w2.heap[w.heap.size]? = some (.cells #[.int .i64 r.status, .int .i64 r.now, .slice a1 r.vars.length c1, .slice a2 r.marks.length c2, .slice a3 r.dues.length c3] 25)) := hid HK2.out
  have HBs : Hid (Below w2.heap.size w2 w2.drew) := hid (Below.refl _ w2).drew
  go_wp2
  go_cut [6] from 24 (fun s6 wx => ∃ p s, s6 = .pointer (some ⟨p, 0, none⟩) ∧ (∃ a5 c5, s = .slice a5 xs.length c5) ∧ Hid (Res w2 wx p s cc xs))
  case first =>
    refine wp_region_held_drew (S := fun wx => wx.heap[w.heap.size]? = some (.cells #[.int .i64 r.status, .int .i64 r.now, .slice a1 r.vars.length c1, .slice a2 r.marks.length c2, .slice a3 r.dues.length c3] 25)) (by kernel_rfl) HK2d.out (fun hHeld => ?_)
    refine wpAnyH_take (i := 0) (v := .slice b0 l.length k0) rfl (by kernel_rfl) (by kernel_rfl) (by kernel_rfl) (fun _ _ _ h => h) (Or.inl ⟨by rfl, by intro w hSw; (try dsimp only at hSw); go_simp⟩) (by assumption) ?_
    simp only [Act.put, List.setIfInBounds_toArray, List.set_cons_zero, List.set_cons_succ]
    refine wpAnyH_take (i := 2) (v := .agg #[.int .i64 r.status, .int .i64 r.now, .slice a1 r.vars.length c1, .slice a2 r.marks.length c2, .slice a3 r.dues.length c3]) rfl (by kernel_rfl) (by kernel_rfl) (by kernel_rfl) (fun _ _ _ h => h) (Or.inl ⟨by rfl, by intro w hSw; (try dsimp only at hSw); have m0 := Ch.blk_cell hSw 0; have m1 := Ch.blk_cell hSw 1; have m2 := Ch.blk_cell hSw 2; have m3 := Ch.blk_cell hSw 3; have m4 := Ch.blk_cell hSw 4; clear hSw; go_simp⟩) (by assumption) ?_
    simp only [Act.put, List.setIfInBounds_toArray, List.set_cons_zero, List.set_cons_succ]
    refine wpAnyH_ready (rs := [1, 5]) (by kernel_rfl) (by simp) ?_
    refine (AllReadyH.cons rfl (fun K hK => ?_) (AllReadyH.cons rfl (fun K hK => ?_) AllReadyH.nil))
    · go_simp
      go_at_call 8
      refine (HT1.out _ HB2d.out).mono ?_
      rintro e q1 ⟨u1, rfl, hu1, hb1⟩
      obtain ⟨x0, y0, rfl⟩ := hu1.slice
      have U1 := hid hu1
      clear hu1
      have BW1 := hid (HB2d.out.trans (hb1.mono HB2d.out.size))
      have BS1 := hid (HBs.out.trans (hb1.mono HBs.out.size))
      have hKK1 : q1.heap[w.heap.size]? = some (.cells #[.int .i64 r.status, .int .i64 r.now, .slice a1 r.vars.length c1, .slice a2 r.marks.length c2, .slice a3 r.dues.length c3] 25) := blk_below HKB.out BS1.out
      clear hb1
      go_wp2_with fail
      refine hK.out _ _ hKK1 (fun hHeld => ?_)
      clear hK K
      try simp only [Act.put, List.setIfInBounds_toArray, List.set_cons_zero, List.set_cons_succ]
      refine wpAnyH_ready (rs := [3, 5]) (by kernel_rfl) (by simp) ?_
      refine (AllReadyH.cons rfl (fun K hK => ?_) (AllReadyH.cons rfl (fun K hK => ?_) AllReadyH.nil))
      · go_simp
        go_at_call 9
        refine (HC1.out _ BW1.out).mono ?_
        rintro e q2 ⟨p1, p2, p3, rfl, hu2, hb2⟩
        obtain ⟨x1, y1, rfl⟩ := hu2.vars.slice
        obtain ⟨x2, y2, rfl⟩ := hu2.marks.slice
        obtain ⟨x3, y3, rfl⟩ := hu2.dues.slice
        have V2 := hid (hu2.mono (Nat.zero_le _))
        clear hu2
        have BW2 := hid (BW1.out.trans (hb2.mono BW1.out.size))
        have BS2 := hid (BS1.out.trans (hb2.mono BS1.out.size))
        have UX2 := hid (U1.out.below hb2)
        have hKK2 : q2.heap[w.heap.size]? = some (.cells #[.int .i64 r.status, .int .i64 r.now, .slice a1 r.vars.length c1, .slice a2 r.marks.length c2, .slice a3 r.dues.length c3] 25) := blk_below HKB.out BS2.out
        clear hb2
        go_wp2_with fail
        refine hK.out _ _ hKK2 (fun hHeld => ?_)
        clear hK K
        try simp only [Act.put, List.setIfInBounds_toArray, List.set_cons_zero, List.set_cons_succ]
        refine wpAnyH_ready (rs := [4, 5]) (by kernel_rfl) (by simp) ?_
        refine (AllReadyH.cons rfl (fun K hK => ?_) (AllReadyH.cons rfl (fun K hK => ?_) AllReadyH.nil))
        · go_simp
          go_at_call 13
          refine (HSK.out _ _ _ _ _ _ UX2.out V2.out).mono ?_
          rintro e q3 ⟨⟨s0, rfl, ho0⟩, hb3⟩
          have hq3 := hb3.size
          have OW3 := hid ho0
          have ON3 : Hid (∀ b, Pt.own s0 b → q2.heap.size + 1 ≤ b ∧ b < q3.heap.size) := hid (fun b hb => Pt.own_lt ho0 hb)
          obtain ⟨y5, z5, rfl⟩ := Ints.owns_slice ho0
          clear ho0
          have BW3 := hid (BW2.out.trans (hb3.mono BW2.out.size))
          have BS3 := hid (BS2.out.trans (hb3.mono BS2.out.size))
          have hKK3 : q3.heap[w.heap.size]? = some (.cells #[.int .i64 r.status, .int .i64 r.now, .slice a1 r.vars.length c1, .slice a2 r.marks.length c2, .slice a3 r.dues.length c3] 25) := blk_below HKB.out BS3.out
          go_wp2_with fail
          refine hK.out _ _ hKK3 (fun hHeld => ?_)
          clear hK K
          try simp only [Act.put, List.setIfInBounds_toArray, List.set_cons_zero, List.set_cons_succ]
          have OB3 : Hid (∀ b, Pt.own (.slice y5 xs.length z5) b → w2.heap.size ≤ b ∧ b < q3.heap.size) := hid (fun b hb => by have h5 := ON3.out b hb; have h6 := BS2.out.size; omega)
          refine wpAnyH_ready (rs := [5]) (by kernel_rfl) (by simp) ?_
          refine (AllReadyH.cons rfl (fun K hK => ?_) AllReadyH.nil)
          go_simp
          obtain ⟨q4, eq4⟩ : ∃ q4, q4 = (q3.alloc (.cells #[.int .i64 0, .slice none 0 0] 37)) := ⟨_, rfl⟩
          have hb4 : Below q3.heap.size q3 q4 := by rw [eq4]; exact new_below q3 _
          have PA4 : Hid (q4.heap[q3.heap.size]? = some (.cells #[.int .i64 0, .slice none 0 0] 37)) := hid (by rw [eq4]; exact Ch.new_blk _ _)
          rw [← eq4]
          clear eq4
          have LP4 : Hid (w2.heap.size ≤ q3.heap.size) := hid BS3.out.size
          have BW4 := hid (BW3.out.trans (hb4.mono BW3.out.size))
          have BS4 := hid (BS3.out.trans (hb4.mono BS3.out.size))
          have OX4 := hid (Ints.owns_below OW3.out hb4)
          have hKK4 : q4.heap[w.heap.size]? = some (.cells #[.int .i64 r.status, .int .i64 r.now, .slice a1 r.vars.length c1, .slice a2 r.marks.length c2, .slice a3 r.dues.length c3] 25) := blk_below HKB.out BS4.out
          refine hK.out _ _ hKK4 (fun hHeld => ?_)
          clear hK K
          try simp only [Act.put, List.setIfInBounds_toArray, List.set_cons_zero, List.set_cons_succ]
          have hsz4 := hb4.size
          have OZ4 : Hid (∀ b, Pt.own (.slice y5 xs.length z5) b → w2.heap.size ≤ b ∧ b < q4.heap.size ∧ b ≠ q3.heap.size) := hid (fun b hb => by have h5 := OB3.out b hb; have h6 := BS3.out.size; have h7 := BS3.out.size; omega)
          have t0 := Ch.blk_free PA4.out 0
          have t1 := Ch.blk_free PA4.out 1
          have z0 : q4.cell? ⟨q3.heap.size, 0, none⟩ = some (.int .i64 0) := Ch.blk_cell PA4.out 0
          have z1 : q4.cell? ⟨q3.heap.size, 1, none⟩ = some (.slice none 0 0) := Ch.blk_cell PA4.out 1
          have HRS := hid (res_store (cc := cc) BS4.out LP4.out PA4.out (IntsAt.of OX4.out) OZ4.out)
          have hKS : ((q4.setCell ⟨q3.heap.size, 0, none⟩ (.int .i64 cc)).setCell ⟨q3.heap.size, 1, none⟩ (.slice y5 xs.length z5)).heap[w.heap.size]? = some (.cells #[.int .i64 r.status, .int .i64 r.now, .slice a1 r.vars.length c1, .slice a2 r.marks.length c2, .slice a3 r.dues.length c3] 25) := blk_below HKB.out HRS.out.bel
          refine wpAnyH_ready (rs := [6]) (by kernel_rfl) (by simp) ?_
          refine AllReadyH.cons rfl (fun K hK => ?_) AllReadyH.nil
          go_simp
          refine hK.out _ _ hKS (fun hHeld => ?_)
          clear hK K
          try simp only [Act.put, List.setIfInBounds_toArray, List.set_cons_zero, List.set_cons_succ]
          refine wpAnyH_done (by kernel_rfl) ?_ _
          go_wp2_with fail
          go_meet
          exact ⟨_, _, rfl, ⟨_, _, rfl⟩, HRS⟩
        · go_simp
          obtain ⟨q3, eq3⟩ : ∃ q3, q3 = (q2.alloc (.cells #[.int .i64 0, .slice none 0 0] 37)) := ⟨_, rfl⟩
          have hb3 : Below q2.heap.size q2 q3 := by rw [eq3]; exact new_below q2 _
          have PA3 : Hid (q3.heap[q2.heap.size]? = some (.cells #[.int .i64 0, .slice none 0 0] 37)) := hid (by rw [eq3]; exact Ch.new_blk _ _)
          rw [← eq3]
          clear eq3
          have LP3 : Hid (w2.heap.size ≤ q2.heap.size) := hid BS2.out.size
          have BW3 := hid (BW2.out.trans (hb3.mono BW2.out.size))
          have BS3 := hid (BS2.out.trans (hb3.mono BS2.out.size))
          have UX3 := hid (UX2.out.below hb3)
          have VX3 := hid (V2.out.below hb3)
          have hKK3 : q3.heap[w.heap.size]? = some (.cells #[.int .i64 r.status, .int .i64 r.now, .slice a1 r.vars.length c1, .slice a2 r.marks.length c2, .slice a3 r.dues.length c3] 25) := blk_below HKB.out BS3.out
          refine hK.out _ _ hKK3 (fun hHeld => ?_)
          clear hK K
          try simp only [Act.put, List.setIfInBounds_toArray, List.set_cons_zero, List.set_cons_succ]
          refine wpAnyH_ready (rs := [4]) (by kernel_rfl) (by simp) ?_
          refine (AllReadyH.cons rfl (fun K hK => ?_) AllReadyH.nil)
          go_simp
          go_at_call 13
          refine (HSK.out _ _ _ _ _ _ UX3.out VX3.out).mono ?_
          rintro e q4 ⟨⟨s0, rfl, ho0⟩, hb4⟩
          have hq4 := hb4.size
          have OW4 := hid ho0
          have ON4 : Hid (∀ b, Pt.own s0 b → q3.heap.size + 1 ≤ b ∧ b < q4.heap.size) := hid (fun b hb => Pt.own_lt ho0 hb)
          obtain ⟨y5, z5, rfl⟩ := Ints.owns_slice ho0
          clear ho0
          have BW4 := hid (BW3.out.trans (hb4.mono BW3.out.size))
          have BS4 := hid (BS3.out.trans (hb4.mono BS3.out.size))
          have PX4 : Hid (q4.heap[q2.heap.size]? = some (.cells #[.int .i64 0, .slice none 0 0] 37)) := hid (blk_below PA3.out hb4)
          have hKK4 : q4.heap[w.heap.size]? = some (.cells #[.int .i64 r.status, .int .i64 r.now, .slice a1 r.vars.length c1, .slice a2 r.marks.length c2, .slice a3 r.dues.length c3] 25) := blk_below HKB.out BS4.out
          go_wp2_with fail
          refine hK.out _ _ hKK4 (fun hHeld => ?_)
          clear hK K
          try simp only [Act.put, List.setIfInBounds_toArray, List.set_cons_zero, List.set_cons_succ]
          have hpl : q2.heap.size < q3.heap.size := Ch.blk_lt PA3.out
          have OZ4 : Hid (∀ b, Pt.own (.slice y5 xs.length z5) b → w2.heap.size ≤ b ∧ b < q4.heap.size ∧ b ≠ q2.heap.size) := hid (fun b hb => by have h5 := ON4.out b hb; have h6 := BS3.out.size; omega)
          have t0 := Ch.blk_free PX4.out 0
          have t1 := Ch.blk_free PX4.out 1
          have z0 : q4.cell? ⟨q2.heap.size, 0, none⟩ = some (.int .i64 0) := Ch.blk_cell PX4.out 0
          have z1 : q4.cell? ⟨q2.heap.size, 1, none⟩ = some (.slice none 0 0) := Ch.blk_cell PX4.out 1
          have HRS := hid (res_store (cc := cc) BS4.out LP3.out PX4.out (IntsAt.of OW4.out) OZ4.out)
          have hKS : ((q4.setCell ⟨q2.heap.size, 0, none⟩ (.int .i64 cc)).setCell ⟨q2.heap.size, 1, none⟩ (.slice y5 xs.length z5)).heap[w.heap.size]? = some (.cells #[.int .i64 r.status, .int .i64 r.now, .slice a1 r.vars.length c1, .slice a2 r.marks.length c2, .slice a3 r.dues.length c3] 25) := blk_below HKB.out HRS.out.bel
          refine wpAnyH_ready (rs := [6]) (by kernel_rfl) (by simp) ?_
          refine AllReadyH.cons rfl (fun K hK => ?_) AllReadyH.nil
          go_simp
          refine hK.out _ _ hKS (fun hHeld => ?_)
          clear hK K
          try simp only [Act.put, List.setIfInBounds_toArray, List.set_cons_zero, List.set_cons_succ]
          refine wpAnyH_done (by kernel_rfl) ?_ _
          go_wp2_with fail
          go_meet
          exact ⟨_, _, rfl, ⟨_, _, rfl⟩, HRS⟩
      · go_simp
        obtain ⟨q2, eq2⟩ : ∃ q2, q2 = (q1.alloc (.cells #[.int .i64 0, .slice none 0 0] 37)) := ⟨_, rfl⟩
        have hb2 : Below q1.heap.size q1 q2 := by rw [eq2]; exact new_below q1 _
        have PA2 : Hid (q2.heap[q1.heap.size]? = some (.cells #[.int .i64 0, .slice none 0 0] 37)) := hid (by rw [eq2]; exact Ch.new_blk _ _)
        rw [← eq2]
        clear eq2
        have LP2 : Hid (w2.heap.size ≤ q1.heap.size) := hid BS1.out.size
        have BW2 := hid (BW1.out.trans (hb2.mono BW1.out.size))
        have BS2 := hid (BS1.out.trans (hb2.mono BS1.out.size))
        have UX2 := hid (U1.out.below hb2)
        have hKK2 : q2.heap[w.heap.size]? = some (.cells #[.int .i64 r.status, .int .i64 r.now, .slice a1 r.vars.length c1, .slice a2 r.marks.length c2, .slice a3 r.dues.length c3] 25) := blk_below HKB.out BS2.out
        refine hK.out _ _ hKK2 (fun hHeld => ?_)
        clear hK K
        try simp only [Act.put, List.setIfInBounds_toArray, List.set_cons_zero, List.set_cons_succ]
        refine wpAnyH_ready (rs := [3]) (by kernel_rfl) (by simp) ?_
        refine (AllReadyH.cons rfl (fun K hK => ?_) AllReadyH.nil)
        go_simp
        go_at_call 9
        refine (HC1.out _ BW2.out).mono ?_
        rintro e q3 ⟨p1, p2, p3, rfl, hu2, hb3⟩
        obtain ⟨x1, y1, rfl⟩ := hu2.vars.slice
        obtain ⟨x2, y2, rfl⟩ := hu2.marks.slice
        obtain ⟨x3, y3, rfl⟩ := hu2.dues.slice
        have V3 := hid (hu2.mono (Nat.zero_le _))
        clear hu2
        have BW3 := hid (BW2.out.trans (hb3.mono BW2.out.size))
        have BS3 := hid (BS2.out.trans (hb3.mono BS2.out.size))
        have UX3 := hid (UX2.out.below hb3)
        have PX3 : Hid (q3.heap[q1.heap.size]? = some (.cells #[.int .i64 0, .slice none 0 0] 37)) := hid (blk_below PA2.out hb3)
        have hKK3 : q3.heap[w.heap.size]? = some (.cells #[.int .i64 r.status, .int .i64 r.now, .slice a1 r.vars.length c1, .slice a2 r.marks.length c2, .slice a3 r.dues.length c3] 25) := blk_below HKB.out BS3.out
        clear hb3
        go_wp2_with fail
        refine hK.out _ _ hKK3 (fun hHeld => ?_)
        clear hK K
        try simp only [Act.put, List.setIfInBounds_toArray, List.set_cons_zero, List.set_cons_succ]
        refine wpAnyH_ready (rs := [4]) (by kernel_rfl) (by simp) ?_
        refine (AllReadyH.cons rfl (fun K hK => ?_) AllReadyH.nil)
        go_simp
        go_at_call 13
        refine (HSK.out _ _ _ _ _ _ UX3.out V3.out).mono ?_
        rintro e q4 ⟨⟨s0, rfl, ho0⟩, hb4⟩
        have hq4 := hb4.size
        have OW4 := hid ho0
        have ON4 : Hid (∀ b, Pt.own s0 b → q3.heap.size + 1 ≤ b ∧ b < q4.heap.size) := hid (fun b hb => Pt.own_lt ho0 hb)
        obtain ⟨y5, z5, rfl⟩ := Ints.owns_slice ho0
        clear ho0
        have BW4 := hid (BW3.out.trans (hb4.mono BW3.out.size))
        have BS4 := hid (BS3.out.trans (hb4.mono BS3.out.size))
        have PX4 : Hid (q4.heap[q1.heap.size]? = some (.cells #[.int .i64 0, .slice none 0 0] 37)) := hid (blk_below PX3.out hb4)
        have hKK4 : q4.heap[w.heap.size]? = some (.cells #[.int .i64 r.status, .int .i64 r.now, .slice a1 r.vars.length c1, .slice a2 r.marks.length c2, .slice a3 r.dues.length c3] 25) := blk_below HKB.out BS4.out
        go_wp2_with fail
        refine hK.out _ _ hKK4 (fun hHeld => ?_)
        clear hK K
        try simp only [Act.put, List.setIfInBounds_toArray, List.set_cons_zero, List.set_cons_succ]
        have hpl : q1.heap.size < q3.heap.size := Ch.blk_lt PX3.out
        have OZ4 : Hid (∀ b, Pt.own (.slice y5 xs.length z5) b → w2.heap.size ≤ b ∧ b < q4.heap.size ∧ b ≠ q1.heap.size) := hid (fun b hb => by have h5 := ON4.out b hb; have h6 := BS3.out.size; omega)
        have t0 := Ch.blk_free PX4.out 0
        have t1 := Ch.blk_free PX4.out 1
        have z0 : q4.cell? ⟨q1.heap.size, 0, none⟩ = some (.int .i64 0) := Ch.blk_cell PX4.out 0
        have z1 : q4.cell? ⟨q1.heap.size, 1, none⟩ = some (.slice none 0 0) := Ch.blk_cell PX4.out 1
        have HRS := hid (res_store (cc := cc) BS4.out LP2.out PX4.out (IntsAt.of OW4.out) OZ4.out)
        have hKS : ((q4.setCell ⟨q1.heap.size, 0, none⟩ (.int .i64 cc)).setCell ⟨q1.heap.size, 1, none⟩ (.slice y5 xs.length z5)).heap[w.heap.size]? = some (.cells #[.int .i64 r.status, .int .i64 r.now, .slice a1 r.vars.length c1, .slice a2 r.marks.length c2, .slice a3 r.dues.length c3] 25) := blk_below HKB.out HRS.out.bel
        refine wpAnyH_ready (rs := [6]) (by kernel_rfl) (by simp) ?_
        refine AllReadyH.cons rfl (fun K hK => ?_) AllReadyH.nil
        go_simp
        refine hK.out _ _ hKS (fun hHeld => ?_)
        clear hK K
        try simp only [Act.put, List.setIfInBounds_toArray, List.set_cons_zero, List.set_cons_succ]
        refine wpAnyH_done (by kernel_rfl) ?_ _
        go_wp2_with fail
        go_meet
        exact ⟨_, _, rfl, ⟨_, _, rfl⟩, HRS⟩
    · go_simp
      obtain ⟨q1, eq1⟩ : ∃ q1, q1 = (w2.alloc (.cells #[.int .i64 0, .slice none 0 0] 37)).drew := ⟨_, rfl⟩
      have hb1 : Below w2.drew.heap.size w2.drew q1 := by rw [eq1]; exact new_below w2.drew _
      have PA1 : Hid (q1.heap[w2.heap.size]? = some (.cells #[.int .i64 0, .slice none 0 0] 37)) := hid (by rw [eq1]; exact Ch.new_blk _ _)
      rw [← eq1]
      clear eq1
      have LP1 : Hid (w2.heap.size ≤ w2.heap.size) := hid HBs.out.size
      have BW1 := hid (HB2d.out.trans (hb1.mono HB2d.out.size))
      have BS1 := hid (HBs.out.trans (hb1.mono HBs.out.size))
      have hKK1 : q1.heap[w.heap.size]? = some (.cells #[.int .i64 r.status, .int .i64 r.now, .slice a1 r.vars.length c1, .slice a2 r.marks.length c2, .slice a3 r.dues.length c3] 25) := blk_below HKB.out BS1.out
      refine hK.out _ _ hKK1 (fun hHeld => ?_)
      clear hK K
      try simp only [Act.put, List.setIfInBounds_toArray, List.set_cons_zero, List.set_cons_succ]
      refine wpAnyH_ready (rs := [1]) (by kernel_rfl) (by simp) ?_
      refine (AllReadyH.cons rfl (fun K hK => ?_) AllReadyH.nil)
      go_simp
      go_at_call 8
      refine (HT1.out _ BW1.out).mono ?_
      rintro e q2 ⟨u1, rfl, hu1, hb2⟩
      obtain ⟨x0, y0, rfl⟩ := hu1.slice
      have U2 := hid hu1
      clear hu1
      have BW2 := hid (BW1.out.trans (hb2.mono BW1.out.size))
      have BS2 := hid (BS1.out.trans (hb2.mono BS1.out.size))
      have PX2 : Hid (q2.heap[w2.heap.size]? = some (.cells #[.int .i64 0, .slice none 0 0] 37)) := hid (blk_below PA1.out hb2)
      have hKK2 : q2.heap[w.heap.size]? = some (.cells #[.int .i64 r.status, .int .i64 r.now, .slice a1 r.vars.length c1, .slice a2 r.marks.length c2, .slice a3 r.dues.length c3] 25) := blk_below HKB.out BS2.out
      clear hb2
      go_wp2_with fail
      refine hK.out _ _ hKK2 (fun hHeld => ?_)
      clear hK K
      try simp only [Act.put, List.setIfInBounds_toArray, List.set_cons_zero, List.set_cons_succ]
      refine wpAnyH_ready (rs := [3]) (by kernel_rfl) (by simp) ?_
      refine (AllReadyH.cons rfl (fun K hK => ?_) AllReadyH.nil)
      go_simp
      go_at_call 9
      refine (HC1.out _ BW2.out).mono ?_
      rintro e q3 ⟨p1, p2, p3, rfl, hu2, hb3⟩
      obtain ⟨x1, y1, rfl⟩ := hu2.vars.slice
      obtain ⟨x2, y2, rfl⟩ := hu2.marks.slice
      obtain ⟨x3, y3, rfl⟩ := hu2.dues.slice
      have V3 := hid (hu2.mono (Nat.zero_le _))
      clear hu2
      have BW3 := hid (BW2.out.trans (hb3.mono BW2.out.size))
      have BS3 := hid (BS2.out.trans (hb3.mono BS2.out.size))
      have UX3 := hid (U2.out.below hb3)
      have PX3 : Hid (q3.heap[w2.heap.size]? = some (.cells #[.int .i64 0, .slice none 0 0] 37)) := hid (blk_below PX2.out hb3)
      have hKK3 : q3.heap[w.heap.size]? = some (.cells #[.int .i64 r.status, .int .i64 r.now, .slice a1 r.vars.length c1, .slice a2 r.marks.length c2, .slice a3 r.dues.length c3] 25) := blk_below HKB.out BS3.out
      clear hb3
      go_wp2_with fail
      refine hK.out _ _ hKK3 (fun hHeld => ?_)
      clear hK K
      try simp only [Act.put, List.setIfInBounds_toArray, List.set_cons_zero, List.set_cons_succ]
      refine wpAnyH_ready (rs := [4]) (by kernel_rfl) (by simp) ?_
      refine (AllReadyH.cons rfl (fun K hK => ?_) AllReadyH.nil)
      go_simp
      go_at_call 13
      refine (HSK.out _ _ _ _ _ _ UX3.out V3.out).mono ?_
      rintro e q4 ⟨⟨s0, rfl, ho0⟩, hb4⟩
      have hq4 := hb4.size
      have OW4 := hid ho0
      have ON4 : Hid (∀ b, Pt.own s0 b → q3.heap.size + 1 ≤ b ∧ b < q4.heap.size) := hid (fun b hb => Pt.own_lt ho0 hb)
      obtain ⟨y5, z5, rfl⟩ := Ints.owns_slice ho0
      clear ho0
      have BW4 := hid (BW3.out.trans (hb4.mono BW3.out.size))
      have BS4 := hid (BS3.out.trans (hb4.mono BS3.out.size))
      have PX4 : Hid (q4.heap[w2.heap.size]? = some (.cells #[.int .i64 0, .slice none 0 0] 37)) := hid (blk_below PX3.out hb4)
      have hKK4 : q4.heap[w.heap.size]? = some (.cells #[.int .i64 r.status, .int .i64 r.now, .slice a1 r.vars.length c1, .slice a2 r.marks.length c2, .slice a3 r.dues.length c3] 25) := blk_below HKB.out BS4.out
      go_wp2_with fail
      refine hK.out _ _ hKK4 (fun hHeld => ?_)
      clear hK K
      try simp only [Act.put, List.setIfInBounds_toArray, List.set_cons_zero, List.set_cons_succ]
      have hpl : w2.heap.size < q3.heap.size := Ch.blk_lt PX3.out
      have OZ4 : Hid (∀ b, Pt.own (.slice y5 xs.length z5) b → w2.heap.size ≤ b ∧ b < q4.heap.size ∧ b ≠ w2.heap.size) := hid (fun b hb => by have h5 := ON4.out b hb; have h6 := BS3.out.size; omega)
      have t0 := Ch.blk_free PX4.out 0
      have t1 := Ch.blk_free PX4.out 1
      have z0 : q4.cell? ⟨w2.heap.size, 0, none⟩ = some (.int .i64 0) := Ch.blk_cell PX4.out 0
      have z1 : q4.cell? ⟨w2.heap.size, 1, none⟩ = some (.slice none 0 0) := Ch.blk_cell PX4.out 1
      have HRS := hid (res_store (cc := cc) BS4.out LP1.out PX4.out (IntsAt.of OW4.out) OZ4.out)
      have hKS : ((q4.setCell ⟨w2.heap.size, 0, none⟩ (.int .i64 cc)).setCell ⟨w2.heap.size, 1, none⟩ (.slice y5 xs.length z5)).heap[w.heap.size]? = some (.cells #[.int .i64 r.status, .int .i64 r.now, .slice a1 r.vars.length c1, .slice a2 r.marks.length c2, .slice a3 r.dues.length c3] 25) := blk_below HKB.out HRS.out.bel
      refine wpAnyH_ready (rs := [6]) (by kernel_rfl) (by simp) ?_
      refine AllReadyH.cons rfl (fun K hK => ?_) AllReadyH.nil
      go_simp
      refine hK.out _ _ hKS (fun hHeld => ?_)
      clear hK K
      try simp only [Act.put, List.setIfInBounds_toArray, List.set_cons_zero, List.set_cons_succ]
      refine wpAnyH_done (by kernel_rfl) ?_ _
      go_wp2_with fail
      go_meet
      exact ⟨_, _, rfl, ⟨_, _, rfl⟩, HRS⟩
  case rest =>
    obtain ⟨p, s0, rfl, ⟨y0, z0, rfl⟩, HRS⟩ := hcut
    have B3 := HB2.out.trans (HRS.out.bel.mono HB2.out.size)
    have hp := HRS.out.blk
    have I0 := hid HRS.out.lst
    have hs0 : ∀ b, Pt.own (Value.slice y0 xs.length z0) b → b < wc.heap.size := fun b hb => (HRS.out.own b hb).2
    have HKc : Hid (wc.heap[w.heap.size]? = some (.cells #[.int .i64 r.status, .int .i64 r.now, .slice a1 r.vars.length c1, .slice a2 r.marks.length c2, .slice a3 r.dues.length c3] 25)) := hid (blk_below HKB.out HRS.out.bel)
    have hpl := Ch.blk_lt hp
    have hPl := Ch.blk_lt HKc.out
    clear HRS HKB HK2d HB2d HB2 HK2 HSK
    have HP0 := hid hp
    have HS0 := hid hs0
    clear hp hs0
    go_wp2_with fail
    refine (HT2.out _ B3).mono ?_
    rintro e w5 ⟨u2, rfl, hu2, hw2, hb5⟩
    obtain ⟨x0, y9, rfl⟩ := hu2.slice
    have B5 := B3.trans (hb5.mono B3.size)
    have U5 := hid (hu2.mono (Nat.zero_le _))
    have W5 := hid hw2
    have HK5 : Hid (w5.heap[w.heap.size]? = some (.cells #[.int .i64 r.status, .int .i64 r.now, .slice a1 r.vars.length c1, .slice a2 r.marks.length c2, .slice a3 r.dues.length c3] 25)) := hid (blk_below HKc.out hb5)
    have P5 := hid (blk_below HP0.out hb5)
    have I5 := hid (I0.out.below hb5)
    have l5 := hb5.size
    clear hu2 hw2 hb5 HKc HP0 I0
    have d0 := Ch.blk_cell HK5.out 0
    have d1 := Ch.blk_cell HK5.out 1
    have d2 := Ch.blk_cell HK5.out 2
    have d3 := Ch.blk_cell HK5.out 3
    have d4 := Ch.blk_cell HK5.out 4
    go_wp2_with fail
    refine (HC2.out _ B5).mono ?_
    rintro e w6 ⟨p1, p2, p3, rfl, hu3, hb6⟩
    obtain ⟨x1, y1, rfl⟩ := hu3.vars.slice
    obtain ⟨x2, y2, rfl⟩ := hu3.marks.slice
    obtain ⟨x3, y3, rfl⟩ := hu3.dues.slice
    obtain ⟨w7, e7⟩ : ∃ w7, w7 = w6.alloc (.cells #[.int .i64 r.status, .int .i64 r.now, .slice x1 r.vars.length y1, .slice x2 r.marks.length y2, .slice x3 r.dues.length y3] 31) := ⟨_, rfl⟩
    have hx7 : Below w6.heap.size w6 w7 := by rw [e7]; exact new_below w6 _
    have hb7 : Below w5.heap.size w5 w7 := hb6.trans (hx7.mono hb6.size)
    obtain ⟨X, eX⟩ : ∃ X, X = w6.heap.size := ⟨_, rfl⟩
    have X7 : Hid (w7.heap[X]? = some (.cells #[.int .i64 r.status, .int .i64 r.now, .slice x1 r.vars.length y1, .slice x2 r.marks.length y2, .slice x3 r.dues.length y3] 31)) := hid (by rw [e7, eX]; exact Ch.new_blk _ _)
    have l6 := hb6.size
    have l7 : w7.heap.size = w6.heap.size + 1 := by rw [e7]; simp
    have L7 := hid l7
    have n7 : w6.heap.size < w7.heap.size := by omega
    have LX := hid eX
    have B7 := B5.trans (hb7.mono B5.size)
    have U7 := hid (U5.out.below hb7)
    have V7 := hid ((hu3.at'.mono (Nat.zero_le _)).below hx7)
    have W7 := hid (W5.out.below hb7)
    have R7 := hid (hu3.rows.below hx7)
    have HK7 : Hid (w7.heap[w.heap.size]? = some (.cells #[.int .i64 r.status, .int .i64 r.now, .slice a1 r.vars.length c1, .slice a2 r.marks.length c2, .slice a3 r.dues.length c3] 25)) := hid (blk_below HK5.out hb7)
    have P7 := hid (blk_below P5.out hb7)
    have I7 := hid (I5.out.below hb7)
    have HIM := hid (HIK.out _ _ _ _ w7 B7 U7.out V7.out)
    clear hu3 hb6 hx7 hb7 U5 W5 HK5 P5 I5 d0 d1 d2 d3 d4 l7 eX
    go_wp2_with fail
    rw [← e7, ← LX.out]
    clear e7
    refine HIM.out.mono ?_
    rintro e w8 ⟨⟨g0, rfl, ho8⟩, hb8⟩
    have l8 := hb8.size
    have hg0 : ∀ b, Pt.own g0 b → w7.heap.size + 1 ≤ b ∧ b < w8.heap.size := fun b hb => Pt.own_lt ho8 hb
    obtain ⟨yg, zg, rfl⟩ := Ints.owns_slice ho8
    obtain ⟨w9, e9⟩ : ∃ w9, w9 = w8.alloc (.cells #[.int .i64 cc, .slice yg xs.length zg] 37) := ⟨_, rfl⟩
    have hx9 : Below w8.heap.size w8 w9 := by rw [e9]; exact new_below w8 _
    have hb9 : Below w7.heap.size w7 w9 := hb8.trans (hx9.mono hb8.size)
    obtain ⟨G, eG⟩ : ∃ G, G = w8.heap.size := ⟨_, rfl⟩
    have G9 : Hid (w9.heap[G]? = some (.cells #[.int .i64 cc, .slice yg xs.length zg] 37)) := hid (by rw [e9, eG]; exact Ch.new_blk _ _)
    have l9 : w9.heap.size = w8.heap.size + 1 := by rw [e9]; simp
    have L9 := hid l9
    have n9 : w8.heap.size < w9.heap.size := by omega
    have LG := hid eG
    have B9 := B7.trans (hb9.mono B7.size)
    have U9 := hid (U7.out.below hb9)
    have V9 := hid (V7.out.below hb9)
    have W9 := hid (W7.out.below hb9)
    have R9 := hid (R7.out.below hb9)
    have HK9 : Hid (w9.heap[w.heap.size]? = some (.cells #[.int .i64 r.status, .int .i64 r.now, .slice a1 r.vars.length c1, .slice a2 r.marks.length c2, .slice a3 r.dues.length c3] 25)) := hid (blk_below HK7.out hb9)
    have P9 := hid (blk_below P7.out hb9)
    have I9 := hid (I7.out.below hb9)
    have X9 : Hid (w9.heap[X]? = some (.cells #[.int .i64 r.status, .int .i64 r.now, .slice x1 r.vars.length y1, .slice x2 r.marks.length y2, .slice x3 r.dues.length y3] 31)) := hid (blk_below X7.out hb9)
    have O9 := hid (Ints.owns_below ho8 hx9)
    have P8 := blk_below P7.out hb8
    have pp0 := Ch.blk_cell P8 0
    have pp1 := Ch.blk_cell P8 1
    have pp2 := Ch.blk_lt P8
    clear P8 ho8 hb8 hx9 hb9 U7 V7 W7 R7 HK7 P7 I7 X7 HIM l9 eG
    go_wp2_with fail
    rw [← e9, ← LG.out]
    clear e9
    refine (Ints.eqR cc _ _ xs _ hxl (IntsAt.of O9.out) I9.out).mono ?_
    rintro e wa ⟨rfl, hba⟩
    clear pp0 pp1 pp2
    have HKa : Hid (wa.heap[w.heap.size]? = some (.cells #[.int .i64 r.status, .int .i64 r.now, .slice a1 r.vars.length c1, .slice a2 r.marks.length c2, .slice a3 r.dues.length c3] 25)) := hid (blk_below HK9.out hba)
    have Xa : Hid (wa.heap[X]? = some (.cells #[.int .i64 r.status, .int .i64 r.now, .slice x1 r.vars.length y1, .slice x2 r.marks.length y2, .slice x3 r.dues.length y3] 31)) := hid (blk_below X9.out hba)
    have Ga : Hid (wa.heap[G]? = some (.cells #[.int .i64 cc, .slice yg xs.length zg] 37)) := hid (blk_below G9.out hba)
    have Pa : Hid (wa.heap[p]? = some (.cells #[.int .i64 cc, .slice y0 xs.length z0] 37)) := hid (blk_below P9.out hba)
    have Oa := hid (Ints.owns_below O9.out hba)
    have Ia := hid (I9.out.below hba)
    have Ua := hid (U9.out.below hba)
    have Va := hid (V9.out.below hba)
    have Wa := hid (W9.out.below hba)
    have Ra := hid (R9.out.below hba)
    have Ba := B9.trans (hba.mono B9.size)
    have sa := hba.size
    clear HK9 X9 G9 P9 O9 I9 U9 V9 W9 R9
    clear hba
    go_wp2_with fail
    refine (HT1.out _ Ba).mono ?_
    rintro e wb ⟨u3, rfl, hu4, hbb⟩
    obtain ⟨x7, y7, rfl⟩ := hu4.slice
    have HEQ := hid (eqS _ _ l _ _ wb S1.out (Ua.out.below hbb) hu4)
    have HKb : Hid (wb.heap[w.heap.size]? = some (.cells #[.int .i64 r.status, .int .i64 r.now, .slice a1 r.vars.length c1, .slice a2 r.marks.length c2, .slice a3 r.dues.length c3] 25)) := hid (blk_below HKa.out hbb)
    have Xb : Hid (wb.heap[X]? = some (.cells #[.int .i64 r.status, .int .i64 r.now, .slice x1 r.vars.length y1, .slice x2 r.marks.length y2, .slice x3 r.dues.length y3] 31)) := hid (blk_below Xa.out hbb)
    have Gb : Hid (wb.heap[G]? = some (.cells #[.int .i64 cc, .slice yg xs.length zg] 37)) := hid (blk_below Ga.out hbb)
    have Pb : Hid (wb.heap[p]? = some (.cells #[.int .i64 cc, .slice y0 xs.length z0] 37)) := hid (blk_below Pa.out hbb)
    have Ob := hid (Ints.owns_below Oa.out hbb)
    have Ib := hid (Ia.out.below hbb)
    have Ub := hid (Ua.out.below hbb)
    have Vb := hid (Va.out.below hbb)
    have Wb := hid (Wa.out.below hbb)
    have Rb := hid (Ra.out.below hbb)
    have Bb := Ba.trans (hbb.mono Ba.size)
    have sb := hbb.size
    clear HKa Xa Ga Pa Oa Ia Ua Va Wa Ra
    clear hu4 hbb
    go_wp2_with fail
    refine HEQ.out.mono ?_
    rintro e wd ⟨rfl, hbd⟩
    have HKd : Hid (wd.heap[w.heap.size]? = some (.cells #[.int .i64 r.status, .int .i64 r.now, .slice a1 r.vars.length c1, .slice a2 r.marks.length c2, .slice a3 r.dues.length c3] 25)) := hid (blk_below HKb.out hbd)
    have Xd : Hid (wd.heap[X]? = some (.cells #[.int .i64 r.status, .int .i64 r.now, .slice x1 r.vars.length y1, .slice x2 r.marks.length y2, .slice x3 r.dues.length y3] 31)) := hid (blk_below Xb.out hbd)
    have Gd : Hid (wd.heap[G]? = some (.cells #[.int .i64 cc, .slice yg xs.length zg] 37)) := hid (blk_below Gb.out hbd)
    have Pd : Hid (wd.heap[p]? = some (.cells #[.int .i64 cc, .slice y0 xs.length z0] 37)) := hid (blk_below Pb.out hbd)
    have Od := hid (Ints.owns_below Ob.out hbd)
    have Id := hid (Ib.out.below hbd)
    have Ud := hid (Ub.out.below hbd)
    have Vd := hid (Vb.out.below hbd)
    have Wd := hid (Wb.out.below hbd)
    have Rd := hid (Rb.out.below hbd)
    have Bd := Bb.trans (hbd.mono Bb.size)
    have sd := hbd.size
    clear HKb Xb Gb Pb Ob Ib Ub Vb Wb Rb
    clear hbd HEQ
    have hBd := Bd.drew
    have HDd : Hid (wd.drew.heap[w.heap.size]? = some (.cells #[.int .i64 r.status, .int .i64 r.now, .slice a1 r.vars.length c1, .slice a2 r.marks.length c2, .slice a3 r.dues.length c3] 25) ∧ wd.drew.heap[X]? = some (.cells #[.int .i64 r.status, .int .i64 r.now, .slice x1 r.vars.length y1, .slice x2 r.marks.length y2, .slice x3 r.dues.length y3] 31)) := hid ⟨HKd.out, Xd.out⟩
    have hdd : Below wd.heap.size wd wd.drew := (Below.refl _ wd).drew
    have Vdd := hid (Vd.out.below hdd)
    go_wp2
    refine wp_region_held_drew (S := fun wx => wx.heap[w.heap.size]? = some (.cells #[.int .i64 r.status, .int .i64 r.now, .slice a1 r.vars.length c1, .slice a2 r.marks.length c2, .slice a3 r.dues.length c3] 25) ∧ wx.heap[X]? = some (.cells #[.int .i64 r.status, .int .i64 r.now, .slice x1 r.vars.length y1, .slice x2 r.marks.length y2, .slice x3 r.dues.length y3] 31)) (by kernel_rfl) HDd.out (fun hHeld => ?_)
    refine wpAnyH_take (i := 0) (v := .agg #[.int .i64 r.status, .int .i64 r.now, .slice x1 r.vars.length y1, .slice x2 r.marks.length y2, .slice x3 r.dues.length y3]) rfl (by kernel_rfl) (by kernel_rfl) (by kernel_rfl) (fun _ _ _ h => h) (Or.inl ⟨by rfl, by intro w hSw; (try dsimp only at hSw); have m0 := Ch.blk_cell hSw.2 0; have m1 := Ch.blk_cell hSw.2 1; have m2 := Ch.blk_cell hSw.2 2; have m3 := Ch.blk_cell hSw.2 3; have m4 := Ch.blk_cell hSw.2 4; clear hSw; go_simp⟩) (by assumption) ?_
    simp only [Act.put, List.setIfInBounds_toArray, List.set_cons_zero, List.set_cons_succ]
    refine wpAnyH_take (i := 1) (v := .agg #[.int .i64 r.status, .int .i64 r.now, .slice a1 r.vars.length c1, .slice a2 r.marks.length c2, .slice a3 r.dues.length c3]) rfl (by kernel_rfl) (by kernel_rfl) (by kernel_rfl) (fun _ _ _ h => h) (Or.inl ⟨by rfl, by intro w hSw; (try dsimp only at hSw); have m0 := Ch.blk_cell hSw.1 0; have m1 := Ch.blk_cell hSw.1 1; have m2 := Ch.blk_cell hSw.1 2; have m3 := Ch.blk_cell hSw.1 3; have m4 := Ch.blk_cell hSw.1 4; clear hSw; go_simp⟩) (by assumption) ?_
    simp only [Act.put, List.setIfInBounds_toArray, List.set_cons_zero, List.set_cons_succ]
    refine wpAnyH_ready (rs := [2]) (by kernel_rfl) (by simp) ?_
    refine AllReadyH.cons rfl (fun K hK => ?_) AllReadyH.nil
    go_simp
    go_at_call 9
    refine (HC1.out _ hBd).mono ?_
    rintro e we ⟨p1, p2, p3, rfl, hu5, hbe⟩
    obtain ⟨z1, t1, rfl⟩ := hu5.vars.slice
    obtain ⟨z2, t2, rfl⟩ := hu5.marks.slice
    obtain ⟨z3, t3, rfl⟩ := hu5.dues.slice
    have HEC := hid (Ch.eq _ _ r _ _ _ _ _ _ we S2.out (Vdd.out.below hbe) hu5)
    have hde := hdd.trans (hbe.mono hdd.size)
    have HDe : Hid (we.heap[w.heap.size]? = some (.cells #[.int .i64 r.status, .int .i64 r.now, .slice a1 r.vars.length c1, .slice a2 r.marks.length c2, .slice a3 r.dues.length c3] 25) ∧ we.heap[X]? = some (.cells #[.int .i64 r.status, .int .i64 r.now, .slice x1 r.vars.length y1, .slice x2 r.marks.length y2, .slice x3 r.dues.length y3] 31)) := hid ⟨blk_below HDd.out.1 hbe, blk_below HDd.out.2 hbe⟩
    clear hu5 hbe
    go_wp2_with fail
    refine hK.out _ _ HDe.out (fun hHeld => ?_)
    clear hK K
    try simp only [Act.put, List.setIfInBounds_toArray, List.set_cons_zero, List.set_cons_succ]
    refine wpAnyH_ready (rs := [3]) (by kernel_rfl) (by simp) ?_
    refine AllReadyH.cons rfl (fun K hK => ?_) AllReadyH.nil
    go_simp
    go_at_call 12
    refine HEC.out.mono ?_
    rintro e wf ⟨rfl, hbf⟩
    have hdf := hde.trans (hbf.mono hde.size)
    have HDf : Hid (wf.heap[w.heap.size]? = some (.cells #[.int .i64 r.status, .int .i64 r.now, .slice a1 r.vars.length c1, .slice a2 r.marks.length c2, .slice a3 r.dues.length c3] 25) ∧ wf.heap[X]? = some (.cells #[.int .i64 r.status, .int .i64 r.now, .slice x1 r.vars.length y1, .slice x2 r.marks.length y2, .slice x3 r.dues.length y3] 31)) := hid ⟨blk_below HDe.out.1 hbf, blk_below HDe.out.2 hbf⟩
    clear hbf
    go_wp2_with fail
    refine hK.out _ _ HDf.out (fun hHeld => ?_)
    clear hK K
    try simp only [Act.put, List.setIfInBounds_toArray, List.set_cons_zero, List.set_cons_succ]
    refine wpAnyH_take (i := 4) (v := .bool false) rfl (by kernel_rfl) (by kernel_rfl) (by kernel_rfl) (fun _ _ _ h => h) (Or.inl ⟨by rfl, by intro w hSw; (try dsimp only at hSw); go_simp⟩) (by assumption) ?_
    simp only [Act.put, List.setIfInBounds_toArray, List.set_cons_zero, List.set_cons_succ]
    refine wpAnyH_done (by kernel_rfl) ?_ _
    clear hHeld HDd HDe HDf HEC Vdd hBd hde hdd Ud Vd
    have HKf : Hid (wf.heap[w.heap.size]? = some (.cells #[.int .i64 r.status, .int .i64 r.now, .slice a1 r.vars.length c1, .slice a2 r.marks.length c2, .slice a3 r.dues.length c3] 25)) := hid (blk_below HKd.out hdf)
    have Xf : Hid (wf.heap[X]? = some (.cells #[.int .i64 r.status, .int .i64 r.now, .slice x1 r.vars.length y1, .slice x2 r.marks.length y2, .slice x3 r.dues.length y3] 31)) := hid (blk_below Xd.out hdf)
    have Gf : Hid (wf.heap[G]? = some (.cells #[.int .i64 cc, .slice yg xs.length zg] 37)) := hid (blk_below Gd.out hdf)
    have Pf : Hid (wf.heap[p]? = some (.cells #[.int .i64 cc, .slice y0 xs.length z0] 37)) := hid (blk_below Pd.out hdf)
    have Of := hid (Ints.owns_below Od.out hdf)
    have If := hid (Id.out.below hdf)
    have Wf := hid (Wd.out.below hdf)
    have Rf := hid (Rd.out.below hdf)
    have Bf := Bd.trans (hdf.mono Bd.size)
    have sf := hdf.size
    clear HKd Xd Gd Pd Od Id Wd Rd
    clear hdf
    go_wp2_with fail
    refine (markSteps _ _ _ l.length (lenC l) (lenE l) _ (by omega) (lensC S1.out) (lensE S1.out) Wf.out).mono ?_
    rintro e wg ⟨⟨rg, rfl, hrg⟩, ham⟩
    have lg := ham.size
    have HKg : Hid (wg.heap[w.heap.size]? = some (.cells #[.int .i64 r.status, .int .i64 r.now, .slice a1 r.vars.length c1, .slice a2 r.marks.length c2, .slice a3 r.dues.length c3] 25)) := hid (blk_amid HKf.out ham (.inl (by omega)))
    have Xg : Hid (wg.heap[X]? = some (.cells #[.int .i64 r.status, .int .i64 r.now, .slice x1 r.vars.length y1, .slice x2 r.marks.length y2, .slice x3 r.dues.length y3] 31)) := hid (blk_amid Xf.out ham (.inr (by have := LX.out; omega)))
    have Gg : Hid (wg.heap[G]? = some (.cells #[.int .i64 cc, .slice yg xs.length zg] 37)) := hid (blk_amid Gf.out ham (.inr (by have := LG.out; have := L7.out; omega)))
    have Pg : Hid (wg.heap[p]? = some (.cells #[.int .i64 cc, .slice y0 xs.length z0] 37)) := hid (blk_amid Pf.out ham (.inl (by omega)))
    have Og := hid (amid_own ham Of.out (fun b hb => .inr (by have := (hg0 b hb).1; have := L7.out; omega)))
    have Ig := hid (If.out.kept ham.size (fun b hb hb2 => ham.block b hb2 (.inl (by have := HS0.out b hb; omega))))
    have Rg := hid (Rf.out.amid ham (Nat.le_refl _))
    have Bg : Below w.heap.size w wg := ⟨ham.os.trans Bf.os, ham.tape.trans Bf.tape, ham.output.trans Bf.output, Nat.le_trans Bf.size ham.size, fun b hb => (ham.block b (by have := Bf.size; omega) (.inl (by have := B3.size; omega))).trans (Bf.block b hb)⟩
    clear HKf Xf Gf Pf Of If Rf
    clear ham Wf
    have d0 := Ch.blk_cell Xg.out 0
    have d1 := Ch.blk_cell Xg.out 1
    have d2 := Ch.blk_cell Xg.out 2
    have d3 := Ch.blk_cell Xg.out 3
    have d4 := Ch.blk_cell Xg.out 4
    have HMC := hid (Ch.markC _ _ r _ _ _ rg wg S2.out (by omega) (by omega) (by omega) Rg.out)
    go_wp2_with fail
    refine HMC.out.mono ?_
    rintro e wh ⟨⟨rh, rfl, hrh⟩, ham⟩
    have lh := ham.size
    clear d0 d1 d2 d3 d4 HMC Rg
    have HKh : Hid (wh.heap[w.heap.size]? = some (.cells #[.int .i64 r.status, .int .i64 r.now, .slice a1 r.vars.length c1, .slice a2 r.marks.length c2, .slice a3 r.dues.length c3] 25)) := hid (blk_amid HKg.out ham (.inl (by omega)))
    have Xh : Hid (wh.heap[X]? = some (.cells #[.int .i64 r.status, .int .i64 r.now, .slice x1 r.vars.length y1, .slice x2 r.marks.length y2, .slice x3 r.dues.length y3] 31)) := hid (blk_amid Xg.out ham (.inr (by have := LX.out; omega)))
    have Gh : Hid (wh.heap[G]? = some (.cells #[.int .i64 cc, .slice yg xs.length zg] 37)) := hid (blk_amid Gg.out ham (.inr (by have := LG.out; have := L7.out; omega)))
    have Ph : Hid (wh.heap[p]? = some (.cells #[.int .i64 cc, .slice y0 xs.length z0] 37)) := hid (blk_amid Pg.out ham (.inl (by omega)))
    have Oh := hid (amid_own ham Og.out (fun b hb => .inr (by have := (hg0 b hb).1; have := L7.out; omega)))
    have Ih := hid (Ig.out.kept ham.size (fun b hb hb2 => ham.block b hb2 (.inl (by have := HS0.out b hb; omega))))
    have Bh : Below w.heap.size w wh := ⟨ham.os.trans Bg.os, ham.tape.trans Bg.tape, ham.output.trans Bg.output, Nat.le_trans Bg.size ham.size, fun b hb => (ham.block b (by have := Bg.size; omega) (.inl (by have := B3.size; omega))).trans (Bg.block b hb)⟩
    clear HKg Xg Gg Pg Og Ig
    clear ham
    have qh : ¬ rh < 0 := by omega
    have pg0 := Ch.blk_cell Gh.out 0
    have pg1 := Ch.blk_cell Gh.out 1
    have pp0 := Ch.blk_cell Ph.out 0
    have pp1 := Ch.blk_cell Ph.out 1
    go_wp2_with fail
    refine (Ints.eqR cc _ _ xs _ hxl (IntsAt.of Oh.out) Ih.out).mono ?_
    rintro e wi ⟨rfl, hbi⟩
    clear pg0 pg1 pp0 pp1
    have HKi : Hid (wi.heap[w.heap.size]? = some (.cells #[.int .i64 r.status, .int .i64 r.now, .slice a1 r.vars.length c1, .slice a2 r.marks.length c2, .slice a3 r.dues.length c3] 25)) := hid (blk_below HKh.out hbi)
    have Gi : Hid (wi.heap[G]? = some (.cells #[.int .i64 cc, .slice yg xs.length zg] 37)) := hid (blk_below Gh.out hbi)
    have Pi : Hid (wi.heap[p]? = some (.cells #[.int .i64 cc, .slice y0 xs.length z0] 37)) := hid (blk_below Ph.out hbi)
    have Oi := hid (Ints.owns_below Oh.out hbi)
    have Ii := hid (Ih.out.below hbi)
    have Bi := Bh.trans (hbi.mono Bh.size)
    have si := hbi.size
    clear HKh Gh Ph Oh Ih
    clear hbi Xh
    have pg0 := Ch.blk_cell Gi.out 0
    have pg1 := Ch.blk_cell Gi.out 1
    go_wp2_with fail
    refine (Ints.markR cc _ _ xs _ hxl (by have := B7.size; omega) Oi.out).mono ?_
    rintro e wj ⟨rfl, hoj, hgj⟩
    have lj := hgj.size
    have hne : ∀ b, b ≤ w7.heap.size ∨ w8.heap.size ≤ b → (Value.slice yg xs.length zg).ownBlock ≠ some b := fun b hb e => by have := hg0 b e; omega
    have Bj : Below w.heap.size w wj := Bi.grown hgj Bi.size (fun b e => by have := hg0 b e; have := B7.size; omega)
    have HKj : Hid (wj.heap[w.heap.size]? = some (.cells #[.int .i64 r.status, .int .i64 r.now, .slice a1 r.vars.length c1, .slice a2 r.marks.length c2, .slice a3 r.dues.length c3] 25)) := hid (blk_grown HKi.out hgj (hne _ (.inl (by omega))))
    have Pj : Hid (wj.heap[p]? = some (.cells #[.int .i64 cc, .slice y0 xs.length z0] 37)) := hid (blk_grown Pi.out hgj (hne _ (.inl (by omega))))
    have Gj : Hid (wj.heap[G]? = some (.cells #[.int .i64 cc, .slice yg xs.length zg] 37)) := hid (blk_grown Gi.out hgj (hne _ (.inr (by have := LG.out; omega))))
    have Mj : Hid (IntsAt wj (.slice yg xs.length zg) (marksTo xs.length)) := hid (IntsAt.of (by rw [len_marks]; exact hoj))
    have Ij := hid (Ii.out.kept hgj.size (fun b hb hb2 => hgj.block b hb2 (fun e => by have := HS0.out b hb; exact hne b (.inl (by omega)) e.symm)))
    clear Oi Ii HKi Pi Gi pg0 pg1 hgj hoj
    have pg0 := Ch.blk_cell Gj.out 0
    have pg1 := Ch.blk_cell Gj.out 1
    go_wp2_with fail
    refine (Ints.heldR cc _ xs.length _ hxl Mj.out).mono ?_
    rintro e wk ⟨rfl, hbk⟩
    clear pg0 pg1
    have HKk : Hid (wk.heap[w.heap.size]? = some (.cells #[.int .i64 r.status, .int .i64 r.now, .slice a1 r.vars.length c1, .slice a2 r.marks.length c2, .slice a3 r.dues.length c3] 25)) := hid (blk_below HKj.out hbk)
    have Gk : Hid (wk.heap[G]? = some (.cells #[.int .i64 cc, .slice yg xs.length zg] 37)) := hid (blk_below Gj.out hbk)
    have Pk : Hid (wk.heap[p]? = some (.cells #[.int .i64 cc, .slice y0 xs.length z0] 37)) := hid (blk_below Pj.out hbk)
    have Ik := hid (Ij.out.below hbk)
    have Mk := hid (Mj.out.below hbk)
    have Bk := Bj.trans (hbk.mono Bj.size)
    have sk := hbk.size
    clear HKj Gj Pj Ij Mj
    clear hbk
    have qq1 : ¬ (1 + (xs.length : Int)) < 0 := by omega
    have qq2 : ((1 + (xs.length : Int)) != (1 + (xs.length : Int))) = false := by simp
    have HKkd : Hid (wk.drew.heap[w.heap.size]? = some (.cells #[.int .i64 r.status, .int .i64 r.now, .slice a1 r.vars.length c1, .slice a2 r.marks.length c2, .slice a3 r.dues.length c3] 25)) := hid HKk.out
    have HBkd := hid Bk.drew
    have HKB : Hid (wk.heap[w.heap.size]? = some (.cells #[.int .i64 r.status, .int .i64 r.now, .slice a1 r.vars.length c1, .slice a2 r.marks.length c2, .slice a3 r.dues.length c3] 25)) := hid HKk.out
    obtain ⟨v0, ev⟩ : ∃ v0, v0 = wk := ⟨_, rfl⟩
    clear ev v0
    have HBs : Hid (Below wk.heap.size wk wk.drew) := hid (Below.refl _ wk).drew
    go_wp2
    go_cut [13] from 75 (fun s13 wx => ∃ p s, s13 = .pointer (some ⟨p, 0, none⟩) ∧ (∃ a5 c5, s = .slice a5 xs.length c5) ∧ Hid (Res wk wx p s cc xs))
    case first =>
      refine wp_region_held_drew (S := fun wx => wx.heap[w.heap.size]? = some (.cells #[.int .i64 r.status, .int .i64 r.now, .slice a1 r.vars.length c1, .slice a2 r.marks.length c2, .slice a3 r.dues.length c3] 25)) (by kernel_rfl) HKkd.out (fun hHeld => ?_)
      refine wpAnyH_take (i := 0) (v := .slice b0 l.length k0) rfl (by kernel_rfl) (by kernel_rfl) (by kernel_rfl) (fun _ _ _ h => h) (Or.inl ⟨by rfl, by intro w hSw; (try dsimp only at hSw); go_simp⟩) (by assumption) ?_
      simp only [Act.put, List.setIfInBounds_toArray, List.set_cons_zero, List.set_cons_succ]
      refine wpAnyH_take (i := 2) (v := .agg #[.int .i64 r.status, .int .i64 r.now, .slice a1 r.vars.length c1, .slice a2 r.marks.length c2, .slice a3 r.dues.length c3]) rfl (by kernel_rfl) (by kernel_rfl) (by kernel_rfl) (fun _ _ _ h => h) (Or.inl ⟨by rfl, by intro w hSw; (try dsimp only at hSw); have m0 := Ch.blk_cell hSw 0; have m1 := Ch.blk_cell hSw 1; have m2 := Ch.blk_cell hSw 2; have m3 := Ch.blk_cell hSw 3; have m4 := Ch.blk_cell hSw 4; clear hSw; go_simp⟩) (by assumption) ?_
      simp only [Act.put, List.setIfInBounds_toArray, List.set_cons_zero, List.set_cons_succ]
      refine wpAnyH_ready (rs := [1, 5]) (by kernel_rfl) (by simp) ?_
      refine (AllReadyH.cons rfl (fun K hK => ?_) (AllReadyH.cons rfl (fun K hK => ?_) AllReadyH.nil))
      · go_simp
        go_at_call 8
        refine (HT1.out _ HBkd.out).mono ?_
        rintro e q1 ⟨u1, rfl, hu1, hb1⟩
        obtain ⟨x0, y0, rfl⟩ := hu1.slice
        have U1 := hid hu1
        clear hu1
        have BW1 := hid (HBkd.out.trans (hb1.mono HBkd.out.size))
        have BS1 := hid (HBs.out.trans (hb1.mono HBs.out.size))
        have hKK1 : q1.heap[w.heap.size]? = some (.cells #[.int .i64 r.status, .int .i64 r.now, .slice a1 r.vars.length c1, .slice a2 r.marks.length c2, .slice a3 r.dues.length c3] 25) := blk_below HKB.out BS1.out
        clear hb1
        go_wp2_with fail
        refine hK.out _ _ hKK1 (fun hHeld => ?_)
        clear hK K
        try simp only [Act.put, List.setIfInBounds_toArray, List.set_cons_zero, List.set_cons_succ]
        refine wpAnyH_ready (rs := [3, 5]) (by kernel_rfl) (by simp) ?_
        refine (AllReadyH.cons rfl (fun K hK => ?_) (AllReadyH.cons rfl (fun K hK => ?_) AllReadyH.nil))
        · go_simp
          go_at_call 9
          refine (HC1.out _ BW1.out).mono ?_
          rintro e q2 ⟨p1, p2, p3, rfl, hu2, hb2⟩
          obtain ⟨x1, y1, rfl⟩ := hu2.vars.slice
          obtain ⟨x2, y2, rfl⟩ := hu2.marks.slice
          obtain ⟨x3, y3, rfl⟩ := hu2.dues.slice
          have V2 := hid (hu2.mono (Nat.zero_le _))
          clear hu2
          have BW2 := hid (BW1.out.trans (hb2.mono BW1.out.size))
          have BS2 := hid (BS1.out.trans (hb2.mono BS1.out.size))
          have UX2 := hid (U1.out.below hb2)
          have hKK2 : q2.heap[w.heap.size]? = some (.cells #[.int .i64 r.status, .int .i64 r.now, .slice a1 r.vars.length c1, .slice a2 r.marks.length c2, .slice a3 r.dues.length c3] 25) := blk_below HKB.out BS2.out
          clear hb2
          go_wp2_with fail
          refine hK.out _ _ hKK2 (fun hHeld => ?_)
          clear hK K
          try simp only [Act.put, List.setIfInBounds_toArray, List.set_cons_zero, List.set_cons_succ]
          refine wpAnyH_ready (rs := [4, 5]) (by kernel_rfl) (by simp) ?_
          refine (AllReadyH.cons rfl (fun K hK => ?_) (AllReadyH.cons rfl (fun K hK => ?_) AllReadyH.nil))
          · go_simp
            go_at_call 14
            refine (HIK.out _ _ _ _ _ BW2.out (UX2.out.mono (Nat.zero_le _)) V2.out).mono ?_
            rintro e q3 ⟨⟨s0, rfl, ho0⟩, hb3⟩
            have hq3 := hb3.size
            have OW3 := hid ho0
            have ON3 : Hid (∀ b, Pt.own s0 b → q2.heap.size + 1 ≤ b ∧ b < q3.heap.size) := hid (fun b hb => Pt.own_lt ho0 hb)
            obtain ⟨y5, z5, rfl⟩ := Ints.owns_slice ho0
            clear ho0
            have BW3 := hid (BW2.out.trans (hb3.mono BW2.out.size))
            have BS3 := hid (BS2.out.trans (hb3.mono BS2.out.size))
            have hKK3 : q3.heap[w.heap.size]? = some (.cells #[.int .i64 r.status, .int .i64 r.now, .slice a1 r.vars.length c1, .slice a2 r.marks.length c2, .slice a3 r.dues.length c3] 25) := blk_below HKB.out BS3.out
            go_wp2_with fail
            refine hK.out _ _ hKK3 (fun hHeld => ?_)
            clear hK K
            try simp only [Act.put, List.setIfInBounds_toArray, List.set_cons_zero, List.set_cons_succ]
            have OB3 : Hid (∀ b, Pt.own (.slice y5 xs.length z5) b → wk.heap.size ≤ b ∧ b < q3.heap.size) := hid (fun b hb => by have h5 := ON3.out b hb; have h6 := BS2.out.size; omega)
            refine wpAnyH_ready (rs := [5]) (by kernel_rfl) (by simp) ?_
            refine (AllReadyH.cons rfl (fun K hK => ?_) AllReadyH.nil)
            go_simp
            obtain ⟨q4, eq4⟩ : ∃ q4, q4 = (q3.alloc (.cells #[.int .i64 0, .slice none 0 0] 37)) := ⟨_, rfl⟩
            have hb4 : Below q3.heap.size q3 q4 := by rw [eq4]; exact new_below q3 _
            have PA4 : Hid (q4.heap[q3.heap.size]? = some (.cells #[.int .i64 0, .slice none 0 0] 37)) := hid (by rw [eq4]; exact Ch.new_blk _ _)
            rw [← eq4]
            clear eq4
            have LP4 : Hid (wk.heap.size ≤ q3.heap.size) := hid BS3.out.size
            have BW4 := hid (BW3.out.trans (hb4.mono BW3.out.size))
            have BS4 := hid (BS3.out.trans (hb4.mono BS3.out.size))
            have OX4 := hid (Ints.owns_below OW3.out hb4)
            have hKK4 : q4.heap[w.heap.size]? = some (.cells #[.int .i64 r.status, .int .i64 r.now, .slice a1 r.vars.length c1, .slice a2 r.marks.length c2, .slice a3 r.dues.length c3] 25) := blk_below HKB.out BS4.out
            refine hK.out _ _ hKK4 (fun hHeld => ?_)
            clear hK K
            try simp only [Act.put, List.setIfInBounds_toArray, List.set_cons_zero, List.set_cons_succ]
            have hsz4 := hb4.size
            have OZ4 : Hid (∀ b, Pt.own (.slice y5 xs.length z5) b → wk.heap.size ≤ b ∧ b < q4.heap.size ∧ b ≠ q3.heap.size) := hid (fun b hb => by have h5 := OB3.out b hb; have h6 := BS3.out.size; have h7 := BS3.out.size; omega)
            have t0 := Ch.blk_free PA4.out 0
            have t1 := Ch.blk_free PA4.out 1
            have z0 : q4.cell? ⟨q3.heap.size, 0, none⟩ = some (.int .i64 0) := Ch.blk_cell PA4.out 0
            have z1 : q4.cell? ⟨q3.heap.size, 1, none⟩ = some (.slice none 0 0) := Ch.blk_cell PA4.out 1
            have HRS := hid (res_store (cc := cc) BS4.out LP4.out PA4.out (IntsAt.of OX4.out) OZ4.out)
            have hKS : ((q4.setCell ⟨q3.heap.size, 0, none⟩ (.int .i64 cc)).setCell ⟨q3.heap.size, 1, none⟩ (.slice y5 xs.length z5)).heap[w.heap.size]? = some (.cells #[.int .i64 r.status, .int .i64 r.now, .slice a1 r.vars.length c1, .slice a2 r.marks.length c2, .slice a3 r.dues.length c3] 25) := blk_below HKB.out HRS.out.bel
            refine wpAnyH_ready (rs := [6]) (by kernel_rfl) (by simp) ?_
            refine AllReadyH.cons rfl (fun K hK => ?_) AllReadyH.nil
            go_simp
            refine hK.out _ _ hKS (fun hHeld => ?_)
            clear hK K
            try simp only [Act.put, List.setIfInBounds_toArray, List.set_cons_zero, List.set_cons_succ]
            refine wpAnyH_done (by kernel_rfl) ?_ _
            go_wp2_with fail
            go_meet
            exact ⟨_, _, rfl, ⟨_, _, rfl⟩, HRS⟩
          · go_simp
            obtain ⟨q3, eq3⟩ : ∃ q3, q3 = (q2.alloc (.cells #[.int .i64 0, .slice none 0 0] 37)) := ⟨_, rfl⟩
            have hb3 : Below q2.heap.size q2 q3 := by rw [eq3]; exact new_below q2 _
            have PA3 : Hid (q3.heap[q2.heap.size]? = some (.cells #[.int .i64 0, .slice none 0 0] 37)) := hid (by rw [eq3]; exact Ch.new_blk _ _)
            rw [← eq3]
            clear eq3
            have LP3 : Hid (wk.heap.size ≤ q2.heap.size) := hid BS2.out.size
            have BW3 := hid (BW2.out.trans (hb3.mono BW2.out.size))
            have BS3 := hid (BS2.out.trans (hb3.mono BS2.out.size))
            have UX3 := hid (UX2.out.below hb3)
            have VX3 := hid (V2.out.below hb3)
            have hKK3 : q3.heap[w.heap.size]? = some (.cells #[.int .i64 r.status, .int .i64 r.now, .slice a1 r.vars.length c1, .slice a2 r.marks.length c2, .slice a3 r.dues.length c3] 25) := blk_below HKB.out BS3.out
            refine hK.out _ _ hKK3 (fun hHeld => ?_)
            clear hK K
            try simp only [Act.put, List.setIfInBounds_toArray, List.set_cons_zero, List.set_cons_succ]
            refine wpAnyH_ready (rs := [4]) (by kernel_rfl) (by simp) ?_
            refine (AllReadyH.cons rfl (fun K hK => ?_) AllReadyH.nil)
            go_simp
            go_at_call 14
            refine (HIK.out _ _ _ _ _ BW3.out (UX3.out.mono (Nat.zero_le _)) VX3.out).mono ?_
            rintro e q4 ⟨⟨s0, rfl, ho0⟩, hb4⟩
            have hq4 := hb4.size
            have OW4 := hid ho0
            have ON4 : Hid (∀ b, Pt.own s0 b → q3.heap.size + 1 ≤ b ∧ b < q4.heap.size) := hid (fun b hb => Pt.own_lt ho0 hb)
            obtain ⟨y5, z5, rfl⟩ := Ints.owns_slice ho0
            clear ho0
            have BW4 := hid (BW3.out.trans (hb4.mono BW3.out.size))
            have BS4 := hid (BS3.out.trans (hb4.mono BS3.out.size))
            have PX4 : Hid (q4.heap[q2.heap.size]? = some (.cells #[.int .i64 0, .slice none 0 0] 37)) := hid (blk_below PA3.out hb4)
            have hKK4 : q4.heap[w.heap.size]? = some (.cells #[.int .i64 r.status, .int .i64 r.now, .slice a1 r.vars.length c1, .slice a2 r.marks.length c2, .slice a3 r.dues.length c3] 25) := blk_below HKB.out BS4.out
            go_wp2_with fail
            refine hK.out _ _ hKK4 (fun hHeld => ?_)
            clear hK K
            try simp only [Act.put, List.setIfInBounds_toArray, List.set_cons_zero, List.set_cons_succ]
            have hpl : q2.heap.size < q3.heap.size := Ch.blk_lt PA3.out
            have OZ4 : Hid (∀ b, Pt.own (.slice y5 xs.length z5) b → wk.heap.size ≤ b ∧ b < q4.heap.size ∧ b ≠ q2.heap.size) := hid (fun b hb => by have h5 := ON4.out b hb; have h6 := BS3.out.size; omega)
            have t0 := Ch.blk_free PX4.out 0
            have t1 := Ch.blk_free PX4.out 1
            have z0 : q4.cell? ⟨q2.heap.size, 0, none⟩ = some (.int .i64 0) := Ch.blk_cell PX4.out 0
            have z1 : q4.cell? ⟨q2.heap.size, 1, none⟩ = some (.slice none 0 0) := Ch.blk_cell PX4.out 1
            have HRS := hid (res_store (cc := cc) BS4.out LP3.out PX4.out (IntsAt.of OW4.out) OZ4.out)
            have hKS : ((q4.setCell ⟨q2.heap.size, 0, none⟩ (.int .i64 cc)).setCell ⟨q2.heap.size, 1, none⟩ (.slice y5 xs.length z5)).heap[w.heap.size]? = some (.cells #[.int .i64 r.status, .int .i64 r.now, .slice a1 r.vars.length c1, .slice a2 r.marks.length c2, .slice a3 r.dues.length c3] 25) := blk_below HKB.out HRS.out.bel
            refine wpAnyH_ready (rs := [6]) (by kernel_rfl) (by simp) ?_
            refine AllReadyH.cons rfl (fun K hK => ?_) AllReadyH.nil
            go_simp
            refine hK.out _ _ hKS (fun hHeld => ?_)
            clear hK K
            try simp only [Act.put, List.setIfInBounds_toArray, List.set_cons_zero, List.set_cons_succ]
            refine wpAnyH_done (by kernel_rfl) ?_ _
            go_wp2_with fail
            go_meet
            exact ⟨_, _, rfl, ⟨_, _, rfl⟩, HRS⟩
        · go_simp
          obtain ⟨q2, eq2⟩ : ∃ q2, q2 = (q1.alloc (.cells #[.int .i64 0, .slice none 0 0] 37)) := ⟨_, rfl⟩
          have hb2 : Below q1.heap.size q1 q2 := by rw [eq2]; exact new_below q1 _
          have PA2 : Hid (q2.heap[q1.heap.size]? = some (.cells #[.int .i64 0, .slice none 0 0] 37)) := hid (by rw [eq2]; exact Ch.new_blk _ _)
          rw [← eq2]
          clear eq2
          have LP2 : Hid (wk.heap.size ≤ q1.heap.size) := hid BS1.out.size
          have BW2 := hid (BW1.out.trans (hb2.mono BW1.out.size))
          have BS2 := hid (BS1.out.trans (hb2.mono BS1.out.size))
          have UX2 := hid (U1.out.below hb2)
          have hKK2 : q2.heap[w.heap.size]? = some (.cells #[.int .i64 r.status, .int .i64 r.now, .slice a1 r.vars.length c1, .slice a2 r.marks.length c2, .slice a3 r.dues.length c3] 25) := blk_below HKB.out BS2.out
          refine hK.out _ _ hKK2 (fun hHeld => ?_)
          clear hK K
          try simp only [Act.put, List.setIfInBounds_toArray, List.set_cons_zero, List.set_cons_succ]
          refine wpAnyH_ready (rs := [3]) (by kernel_rfl) (by simp) ?_
          refine (AllReadyH.cons rfl (fun K hK => ?_) AllReadyH.nil)
          go_simp
          go_at_call 9
          refine (HC1.out _ BW2.out).mono ?_
          rintro e q3 ⟨p1, p2, p3, rfl, hu2, hb3⟩
          obtain ⟨x1, y1, rfl⟩ := hu2.vars.slice
          obtain ⟨x2, y2, rfl⟩ := hu2.marks.slice
          obtain ⟨x3, y3, rfl⟩ := hu2.dues.slice
          have V3 := hid (hu2.mono (Nat.zero_le _))
          clear hu2
          have BW3 := hid (BW2.out.trans (hb3.mono BW2.out.size))
          have BS3 := hid (BS2.out.trans (hb3.mono BS2.out.size))
          have UX3 := hid (UX2.out.below hb3)
          have PX3 : Hid (q3.heap[q1.heap.size]? = some (.cells #[.int .i64 0, .slice none 0 0] 37)) := hid (blk_below PA2.out hb3)
          have hKK3 : q3.heap[w.heap.size]? = some (.cells #[.int .i64 r.status, .int .i64 r.now, .slice a1 r.vars.length c1, .slice a2 r.marks.length c2, .slice a3 r.dues.length c3] 25) := blk_below HKB.out BS3.out
          clear hb3
          go_wp2_with fail
          refine hK.out _ _ hKK3 (fun hHeld => ?_)
          clear hK K
          try simp only [Act.put, List.setIfInBounds_toArray, List.set_cons_zero, List.set_cons_succ]
          refine wpAnyH_ready (rs := [4]) (by kernel_rfl) (by simp) ?_
          refine (AllReadyH.cons rfl (fun K hK => ?_) AllReadyH.nil)
          go_simp
          go_at_call 14
          refine (HIK.out _ _ _ _ _ BW3.out (UX3.out.mono (Nat.zero_le _)) V3.out).mono ?_
          rintro e q4 ⟨⟨s0, rfl, ho0⟩, hb4⟩
          have hq4 := hb4.size
          have OW4 := hid ho0
          have ON4 : Hid (∀ b, Pt.own s0 b → q3.heap.size + 1 ≤ b ∧ b < q4.heap.size) := hid (fun b hb => Pt.own_lt ho0 hb)
          obtain ⟨y5, z5, rfl⟩ := Ints.owns_slice ho0
          clear ho0
          have BW4 := hid (BW3.out.trans (hb4.mono BW3.out.size))
          have BS4 := hid (BS3.out.trans (hb4.mono BS3.out.size))
          have PX4 : Hid (q4.heap[q1.heap.size]? = some (.cells #[.int .i64 0, .slice none 0 0] 37)) := hid (blk_below PX3.out hb4)
          have hKK4 : q4.heap[w.heap.size]? = some (.cells #[.int .i64 r.status, .int .i64 r.now, .slice a1 r.vars.length c1, .slice a2 r.marks.length c2, .slice a3 r.dues.length c3] 25) := blk_below HKB.out BS4.out
          go_wp2_with fail
          refine hK.out _ _ hKK4 (fun hHeld => ?_)
          clear hK K
          try simp only [Act.put, List.setIfInBounds_toArray, List.set_cons_zero, List.set_cons_succ]
          have hpl : q1.heap.size < q3.heap.size := Ch.blk_lt PX3.out
          have OZ4 : Hid (∀ b, Pt.own (.slice y5 xs.length z5) b → wk.heap.size ≤ b ∧ b < q4.heap.size ∧ b ≠ q1.heap.size) := hid (fun b hb => by have h5 := ON4.out b hb; have h6 := BS3.out.size; omega)
          have t0 := Ch.blk_free PX4.out 0
          have t1 := Ch.blk_free PX4.out 1
          have z0 : q4.cell? ⟨q1.heap.size, 0, none⟩ = some (.int .i64 0) := Ch.blk_cell PX4.out 0
          have z1 : q4.cell? ⟨q1.heap.size, 1, none⟩ = some (.slice none 0 0) := Ch.blk_cell PX4.out 1
          have HRS := hid (res_store (cc := cc) BS4.out LP2.out PX4.out (IntsAt.of OW4.out) OZ4.out)
          have hKS : ((q4.setCell ⟨q1.heap.size, 0, none⟩ (.int .i64 cc)).setCell ⟨q1.heap.size, 1, none⟩ (.slice y5 xs.length z5)).heap[w.heap.size]? = some (.cells #[.int .i64 r.status, .int .i64 r.now, .slice a1 r.vars.length c1, .slice a2 r.marks.length c2, .slice a3 r.dues.length c3] 25) := blk_below HKB.out HRS.out.bel
          refine wpAnyH_ready (rs := [6]) (by kernel_rfl) (by simp) ?_
          refine AllReadyH.cons rfl (fun K hK => ?_) AllReadyH.nil
          go_simp
          refine hK.out _ _ hKS (fun hHeld => ?_)
          clear hK K
          try simp only [Act.put, List.setIfInBounds_toArray, List.set_cons_zero, List.set_cons_succ]
          refine wpAnyH_done (by kernel_rfl) ?_ _
          go_wp2_with fail
          go_meet
          exact ⟨_, _, rfl, ⟨_, _, rfl⟩, HRS⟩
      · go_simp
        obtain ⟨q1, eq1⟩ : ∃ q1, q1 = (wk.alloc (.cells #[.int .i64 0, .slice none 0 0] 37)).drew := ⟨_, rfl⟩
        have hb1 : Below wk.drew.heap.size wk.drew q1 := by rw [eq1]; exact new_below wk.drew _
        have PA1 : Hid (q1.heap[wk.heap.size]? = some (.cells #[.int .i64 0, .slice none 0 0] 37)) := hid (by rw [eq1]; exact Ch.new_blk _ _)
        rw [← eq1]
        clear eq1
        have LP1 : Hid (wk.heap.size ≤ wk.heap.size) := hid HBs.out.size
        have BW1 := hid (HBkd.out.trans (hb1.mono HBkd.out.size))
        have BS1 := hid (HBs.out.trans (hb1.mono HBs.out.size))
        have hKK1 : q1.heap[w.heap.size]? = some (.cells #[.int .i64 r.status, .int .i64 r.now, .slice a1 r.vars.length c1, .slice a2 r.marks.length c2, .slice a3 r.dues.length c3] 25) := blk_below HKB.out BS1.out
        refine hK.out _ _ hKK1 (fun hHeld => ?_)
        clear hK K
        try simp only [Act.put, List.setIfInBounds_toArray, List.set_cons_zero, List.set_cons_succ]
        refine wpAnyH_ready (rs := [1]) (by kernel_rfl) (by simp) ?_
        refine (AllReadyH.cons rfl (fun K hK => ?_) AllReadyH.nil)
        go_simp
        go_at_call 8
        refine (HT1.out _ BW1.out).mono ?_
        rintro e q2 ⟨u1, rfl, hu1, hb2⟩
        obtain ⟨x0, y0, rfl⟩ := hu1.slice
        have U2 := hid hu1
        clear hu1
        have BW2 := hid (BW1.out.trans (hb2.mono BW1.out.size))
        have BS2 := hid (BS1.out.trans (hb2.mono BS1.out.size))
        have PX2 : Hid (q2.heap[wk.heap.size]? = some (.cells #[.int .i64 0, .slice none 0 0] 37)) := hid (blk_below PA1.out hb2)
        have hKK2 : q2.heap[w.heap.size]? = some (.cells #[.int .i64 r.status, .int .i64 r.now, .slice a1 r.vars.length c1, .slice a2 r.marks.length c2, .slice a3 r.dues.length c3] 25) := blk_below HKB.out BS2.out
        clear hb2
        go_wp2_with fail
        refine hK.out _ _ hKK2 (fun hHeld => ?_)
        clear hK K
        try simp only [Act.put, List.setIfInBounds_toArray, List.set_cons_zero, List.set_cons_succ]
        refine wpAnyH_ready (rs := [3]) (by kernel_rfl) (by simp) ?_
        refine (AllReadyH.cons rfl (fun K hK => ?_) AllReadyH.nil)
        go_simp
        go_at_call 9
        refine (HC1.out _ BW2.out).mono ?_
        rintro e q3 ⟨p1, p2, p3, rfl, hu2, hb3⟩
        obtain ⟨x1, y1, rfl⟩ := hu2.vars.slice
        obtain ⟨x2, y2, rfl⟩ := hu2.marks.slice
        obtain ⟨x3, y3, rfl⟩ := hu2.dues.slice
        have V3 := hid (hu2.mono (Nat.zero_le _))
        clear hu2
        have BW3 := hid (BW2.out.trans (hb3.mono BW2.out.size))
        have BS3 := hid (BS2.out.trans (hb3.mono BS2.out.size))
        have UX3 := hid (U2.out.below hb3)
        have PX3 : Hid (q3.heap[wk.heap.size]? = some (.cells #[.int .i64 0, .slice none 0 0] 37)) := hid (blk_below PX2.out hb3)
        have hKK3 : q3.heap[w.heap.size]? = some (.cells #[.int .i64 r.status, .int .i64 r.now, .slice a1 r.vars.length c1, .slice a2 r.marks.length c2, .slice a3 r.dues.length c3] 25) := blk_below HKB.out BS3.out
        clear hb3
        go_wp2_with fail
        refine hK.out _ _ hKK3 (fun hHeld => ?_)
        clear hK K
        try simp only [Act.put, List.setIfInBounds_toArray, List.set_cons_zero, List.set_cons_succ]
        refine wpAnyH_ready (rs := [4]) (by kernel_rfl) (by simp) ?_
        refine (AllReadyH.cons rfl (fun K hK => ?_) AllReadyH.nil)
        go_simp
        go_at_call 14
        refine (HIK.out _ _ _ _ _ BW3.out (UX3.out.mono (Nat.zero_le _)) V3.out).mono ?_
        rintro e q4 ⟨⟨s0, rfl, ho0⟩, hb4⟩
        have hq4 := hb4.size
        have OW4 := hid ho0
        have ON4 : Hid (∀ b, Pt.own s0 b → q3.heap.size + 1 ≤ b ∧ b < q4.heap.size) := hid (fun b hb => Pt.own_lt ho0 hb)
        obtain ⟨y5, z5, rfl⟩ := Ints.owns_slice ho0
        clear ho0
        have BW4 := hid (BW3.out.trans (hb4.mono BW3.out.size))
        have BS4 := hid (BS3.out.trans (hb4.mono BS3.out.size))
        have PX4 : Hid (q4.heap[wk.heap.size]? = some (.cells #[.int .i64 0, .slice none 0 0] 37)) := hid (blk_below PX3.out hb4)
        have hKK4 : q4.heap[w.heap.size]? = some (.cells #[.int .i64 r.status, .int .i64 r.now, .slice a1 r.vars.length c1, .slice a2 r.marks.length c2, .slice a3 r.dues.length c3] 25) := blk_below HKB.out BS4.out
        go_wp2_with fail
        refine hK.out _ _ hKK4 (fun hHeld => ?_)
        clear hK K
        try simp only [Act.put, List.setIfInBounds_toArray, List.set_cons_zero, List.set_cons_succ]
        have hpl : wk.heap.size < q3.heap.size := Ch.blk_lt PX3.out
        have OZ4 : Hid (∀ b, Pt.own (.slice y5 xs.length z5) b → wk.heap.size ≤ b ∧ b < q4.heap.size ∧ b ≠ wk.heap.size) := hid (fun b hb => by have h5 := ON4.out b hb; have h6 := BS3.out.size; omega)
        have t0 := Ch.blk_free PX4.out 0
        have t1 := Ch.blk_free PX4.out 1
        have z0 : q4.cell? ⟨wk.heap.size, 0, none⟩ = some (.int .i64 0) := Ch.blk_cell PX4.out 0
        have z1 : q4.cell? ⟨wk.heap.size, 1, none⟩ = some (.slice none 0 0) := Ch.blk_cell PX4.out 1
        have HRS := hid (res_store (cc := cc) BS4.out LP1.out PX4.out (IntsAt.of OW4.out) OZ4.out)
        have hKS : ((q4.setCell ⟨wk.heap.size, 0, none⟩ (.int .i64 cc)).setCell ⟨wk.heap.size, 1, none⟩ (.slice y5 xs.length z5)).heap[w.heap.size]? = some (.cells #[.int .i64 r.status, .int .i64 r.now, .slice a1 r.vars.length c1, .slice a2 r.marks.length c2, .slice a3 r.dues.length c3] 25) := blk_below HKB.out HRS.out.bel
        refine wpAnyH_ready (rs := [6]) (by kernel_rfl) (by simp) ?_
        refine AllReadyH.cons rfl (fun K hK => ?_) AllReadyH.nil
        go_simp
        refine hK.out _ _ hKS (fun hHeld => ?_)
        clear hK K
        try simp only [Act.put, List.setIfInBounds_toArray, List.set_cons_zero, List.set_cons_succ]
        refine wpAnyH_done (by kernel_rfl) ?_ _
        go_wp2_with fail
        go_meet
        exact ⟨_, _, rfl, ⟨_, _, rfl⟩, HRS⟩
    case rest =>
      obtain ⟨ph, sh, rfl, ⟨yh, zh, rfl⟩, HRS⟩ := hcut
      have hxc : Below wk.heap.size wk wc := HRS.out.bel
      have Bc := Bk.trans (hxc.mono Bk.size)
      have hph := HRS.out.blk
      have Jc := hid HRS.out.lst
      have Gc : Hid (wc.heap[G]? = some (.cells #[.int .i64 cc, .slice yg xs.length zg] 37)) := hid (blk_below Gk.out hxc)
      have Pc : Hid (wc.heap[p]? = some (.cells #[.int .i64 cc, .slice y0 xs.length z0] 37)) := hid (blk_below Pk.out hxc)
      have Ic := hid (Ik.out.below hxc)
      have Mc := hid (Mk.out.below hxc)
      clear HRS HKB HKkd HBkd Gk Pk Ik Mk HKk hxc
      have pg0 := Ch.blk_cell hph 0
      have pg1 := Ch.blk_cell hph 1
      have pp0 := Ch.blk_cell Pc.out 0
      have pp1 := Ch.blk_cell Pc.out 1
      have lph := Ch.blk_lt hph
      have lpp := Ch.blk_lt Pc.out
      go_wp2_with fail
      refine (Ints.eqR cc _ _ xs _ hxl Jc.out Ic.out).mono ?_
      rintro e wm ⟨rfl, hbm⟩
      have Bm := Bc.trans (hbm.mono Bc.size)
      have Gm : Hid (wm.heap[G]? = some (.cells #[.int .i64 cc, .slice yg xs.length zg] 37)) := hid (blk_below Gc.out hbm)
      have Mm := hid (Mc.out.below hbm)
      clear pg0 pg1 pp0 pp1 hbm
      have pg0 := Ch.blk_cell Gm.out 0
      have pg1 := Ch.blk_cell Gm.out 1
      go_wp2_with fail
      refine (Ints.heldR cc _ xs.length _ hxl Mm.out).mono ?_
      rintro e wn ⟨rfl, hbn⟩
      have Bn := Bm.trans (hbn.mono Bm.size)
      go_wp2
      go_ret
      exact ⟨rfl, Bn⟩
set_option maxRecDepth 100000 in
theorem contract (H : Type) (enc : TypeId × Value → H) (W : World) (base : Nat) (args : Array Value) (ds gs : List (DataW H)) (before : List MemPlace)
    (hval : ∀ (j : Nat) t v, Tryd.f4.params[j]? = some t → args[j]? = some v → Value.okWide Tryd.prog W .any base t v)
    (hW : DataW.Whole enc Tryd.prog Tryd.f4.params.toList Rows.fnExactOpenStepsSpec.vars false W args.toList ds gs before) (hL : laidMetH Tryd.prog Rows.fnExactOpenStepsRow.laid W) :
    Calls Tryd.prog 4 args W fun e W' => ∃ v, e = .returned v ∧ Rows.fnExactOpenStepsSpec.post enc Tryd.prog Tryd.f4 false true false false W args v W' := by
  have hent := Crd.rul_of hL
  have hW' := hW
  obtain ⟨p, q, hA0, hV, rfl, hfz, hnd⟩ := hW
  have hA : DataW.TrodAll enc Tryd.prog W 0 (fun _ => true) true Tryd.f4.params.toList args.toList ds p := hA0
  rw [Tryd.params4] at hA hval
  obtain ⟨v0, vs0, d0, ds0, p0, q0, hargs, rfl, rfl, h0, r0⟩ := trodAll_cons hA
  obtain ⟨v1, vs1, d1, ds1, p1, q1, rfl, rfl, rfl, h1, r1⟩ := trodAll_cons r0
  obtain ⟨rfl, rfl, rfl⟩ := trodAll_nil r1
  obtain rfl : args = #[v0, v1] := by cases args; simp_all
  obtain ⟨a0, len0, cap0, rfl⟩ := okWide_slice Tryd.underlying22 (hval 0 22 v0 rfl rfl)
  have k0 := h0
  have lt0 : ∀ x ∈ p0, x.block < W.heap.size := by obtain ⟨m, hm⟩ := k0; exact DataW.trod_lt m _ _ _ hm
  obtain ⟨l0, ga0, gb0, gc0⟩ : ∃ es, St.At W 0 (.slice a0 len0 cap0) es ∧ St.Ok es ∧ es.length ≤ maxLen := by
    obtain ⟨fuel, hf⟩ := h0
    exact St.open_all (by simpa [Value.cells] using hf)
  obtain ⟨cs1, rfl, _⟩ := okWide_struct Tryd.underlying25 (hval 1 25 v1 rfl rfl)
  have k1 := h1
  have lt1 : ∀ x ∈ p1, x.block < W.heap.size := by obtain ⟨m, hm⟩ := k1; exact DataW.trod_lt m _ _ _ hm
  obtain ⟨g1, n1, f1, e1, hc1, ga1, gk1⟩ : ∃ (g : Ch.RunD) (vn vf ve : Value), cs1.toList = [.int .i64 g.status, .int .i64 g.now, vn, vf, ve] ∧ Ch.At W 0 vn vf ve g ∧ Ch.Ok g := by
    obtain ⟨fuel, hf⟩ := h1
    exact Ch.open_all (by simpa [Value.cells] using hf)
  obtain rfl : cs1 = #[.int .i64 g1.status, .int .i64 g1.now, n1, f1, e1] := by cases cs1; simp_all
  clear hA0
  refine (walk l0 _ g1 _ _ _ W gc0 gb0 gk1 ga0 ga1 hent).mono fun e W' ⟨he, bel⟩ => ?_
  subst he
  have hV0 := hV
  obtain ⟨g, t, cs, fuel, dv, pv, rfl, hg, ht, hvar, hd, rfl⟩ := trodVars_one hV
  have hv' := Below.trodVars Crd.laidOut bel (ns := Rows.fnExactOpenStepsSpec.vars) (by kernel_rfl) hV0
  exact ⟨_, rfl, _, _, _, [], _, _, hW', trodAll_mk1 (shut_bool Tryd.underlying4 _), (trodAll_cons_mk (Below.trod Crd.laidOut (by kernel_rfl) (of_decide_eq_true (by kernel_rfl)) k0 bel lt0) (trodAll_cons_mk (Below.trod Crd.laidOut (by kernel_rfl) (of_decide_eq_true (by kernel_rfl)) k1 bel lt1) trodAll_mk0)), hv', bel.frame _, fun h => by cases h⟩
theorem laid_met (os : Os) : laidMet Tryd.prog Rows.fnExactOpenStepsRow.laid ((Crd.laidOver (World.holding Tryd.prog os ⟨#[], #[], []⟩)).forCall (fun _ _ => 0) ⟨#[], #[.slice Option.none 0 0, .agg #[.int .i64 0, .int .i64 0, .slice Option.none 0 0, .slice Option.none 0 0, .slice Option.none 0 0]], []⟩).memory :=
  laidMet_of_run' 8 (by kernel_rfl) (by kernel_rfl)
theorem reads (os : Os) {H : Type} (enc : TypeId × Value → H) : ∃ places, DataW.whole enc Tryd.prog ((Crd.laidOver (World.holding Tryd.prog os ⟨#[], #[], []⟩)).forCall (fun _ _ => 0) ⟨#[], #[.slice Option.none 0 0, .agg #[.int .i64 0, .int .i64 0, .slice Option.none 0 0, .slice Option.none 0 0, .slice Option.none 0 0]], []⟩).memory Tryd.f4.params.toList Rows.fnExactOpenStepsSpec.vars false #[Value.slice Option.none 0 0, Value.agg #[.int .i64 0, .int .i64 0, .slice Option.none 0 0, .slice Option.none 0 0, .slice Option.none 0 0]].toList 8 = some ([.nil, .agg [.lit (.int .i64 0), .lit (.int .i64 0), .nil, .nil, .nil]], [Rows.laid_loop_example_g00343_impl_stepRules], places) :=
  ⟨MemPlace.row ⟨0, 0, Option.none⟩ 56, by kernel_rfl⟩
set_option maxRecDepth 100000 in
theorem lifted (os : Os) (started : os.Started) (H : Type) (enc : TypeId × Value → H) (F : Stop.Interp) :
    ReturnsInHanded {} Tryd.checked os 4 .any ((OpenSpec.ofChange Rows.fnExactOpenStepsSpec).preRow enc Tryd.prog Tryd.f4 Rows.fnExactOpenStepsRow.domain false Rows.fnExactOpenStepsRow.laid) (((OpenSpec.ofChange Rows.fnExactOpenStepsSpec).at F).post enc Tryd.prog Tryd.f4 false true false false) := by
  obtain ⟨places, hx⟩ := reads os enc
  refine returnsInHanded_of_row (C := Tryd.checked) (s := OpenSpec.ofChange Rows.fnExactOpenStepsSpec) Crd.own started (by kernel_rfl) Tryd.func4
    (witness_row_at (enc := enc) (C := Tryd.checked) false (Crd.laidOver (World.holding Tryd.prog os ⟨#[], #[], []⟩)) #[.slice Option.none 0 0, .agg #[.int .i64 0, .int .i64 0, .slice Option.none 0 0, .slice Option.none 0 0, .slice Option.none 0 0]] rfl (by kernel_rfl) (by kernel_rfl) (by kernel_rfl)
      (OpenSpec.preRow_of_cond 8 hx (by kernel_rfl) (fun k hk => by cases hk) (by kernel_rfl) (laid_met os))) ?_
  intro W base args ds gs before hval hW _ _ _ hL _ _
  exact contract H enc W base args ds gs before hval hW hL
theorem said : Rows.FnExactOpenStepsSaid :=
  OpenClaim.holds_of_cond 4 Tryd.f4 rfl rfl rfl rfl rfl rfl rfl ⟨rfl, rfl, rfl, rfl, rfl⟩ rfl rfl rfl rfl rfl (by kernel_rfl) Tryd.func4 (by kernel_rfl)
    (of_decide_eq_true (by kernel_rfl)) (by unfold Func.isWrapper; first | (rw [if_pos (by decide +kernel)]; kernel_rfl) | (rw [if_neg (by decide +kernel)]; exact ⟨rfl, rfl⟩))
    (fun os started H enc _ F => by rw [OpenClaim.pre_eq_preRow]; exact lifted os started H enc F)
set_option maxRecDepth 100000 in
theorem plain (f : FuncId) (fn : Func) (hf : Tryd.pinned.checked.prog.funcNamed "loop.example/g00343/laws.FnExactOpenSteps" = some f) (hfn : Tryd.pinned.checked.prog.funcs[f]? = some fn) :
    true = Tryd.pinned.checked.prog.looks [] ∧ ∀ (j : Nat) t, fn.params[j]? = some t → Tryd.pinned.checked.prog.wantsStandIn t = false := by
  obtain rfl : f = 4 := Option.some.inj ((show Tryd.prog.funcNamed "loop.example/g00343/laws.FnExactOpenSteps" = some 4 by kernel_rfl).symm.trans hf) |>.symm
  obtain rfl : fn = Tryd.f4 := (Option.some.inj (Tryd.func4.symm.trans hfn)).symm
  refine ⟨by kernel_rfl, fun j t ht => ?_⟩
  rw [Tryd.params4] at ht
  have hm : t = 22 ∨ t = 25 := by simpa using Array.mem_of_getElem? ht
  rcases hm with rfl | rfl
  · exact (show Tryd.prog.wantsStandIn 22 = false by kernel_rfl)
  · exact (show Tryd.prog.wantsStandIn 25 = false by kernel_rfl)
end KoL
theorem fnExactOpenSteps_card : Rows.FnExactOpenStepsCardSaid :=
  Claim7.holds_tied_plain_at .later [] _ _ _ _ KoL.said (fun _ h => by cases h) (by kernel_rfl) (fun _ h => by cases h) fnExactOpenSteps_row_tie rfl ⟨rfl, rfl⟩ (by kernel_rfl) rfl KoL.plain (by kernel_rfl)
#print axioms fnExactOpenSteps_card
end Go.Proofs.YtdmekehlkfbigaaDoor
