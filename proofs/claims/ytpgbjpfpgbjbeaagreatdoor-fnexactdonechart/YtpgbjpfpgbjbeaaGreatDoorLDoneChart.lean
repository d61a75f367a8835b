/- Whatever list of steps, chart, number and list of numbers are handed in, DoneChart answers as the specification's DoneChart does, in code and in the chart, whose rows own their memory, behind another call too, and the arguments read afterwards as before. Condition, tied to the program's own text: the table of rules holds what its initialiser lays. -/
import Derived.Test.YtpgbjpfpgbjbeaaGreatDoorJCh11
import Derived.Test.YtpgbjpfpgbjbeaaGreatDoorJCh12
import Derived.Test.YtpgbjpfpgbjbeaaGreatDoorJCh13
import Derived.Test.YtpgbjpfpgbjbeaaGreatDoorJCh15
import Derived.Test.YtpgbjpfpgbjbeaaGreatDoorJCh47
import Derived.Test.YtpgbjpfpgbjbeaaGreatDoorJCh50
import Derived.Deep.RegionHeld3
import Derived.Deep.Cut
namespace Go.Proofs.YtpgbjpfpgbjbeaaGreatDoor
open Go.ChangeShapes Go.WideShapes Go.ChangeAt Go.RowKit Go.Deep
open Go.ChangeMaps (open_string shut_string)
set_option linter.unusedVariables false
set_option linter.unusedSimpArgs false
namespace KlD
open Ex (hid)
open Pf St
open Ch (RunD)
open Kv (doneC doneR implDone IPost zeroR set6 below6 heap6)
open Kw (specDoneChart SPost)
theorem blk_below {w w' : World} {b : Nat} {o : Obj} (h : w.heap[b]? = some o) (hb : Below w.heap.size w w') : w'.heap[b]? = some o := (hb.block b (Ch.blk_lt h)).trans h
theorem blk_amid {w w' : World} {b B C : Nat} {o : Obj} (h : w.heap[b]? = some o) (hb : Amid w w' B C) (ho : b < B ∨ C ≤ b) : w'.heap[b]? = some o := (hb.block b (Ch.blk_lt h) ho).trans h
theorem blk_within {w w' : World} {b B C : Nat} {o : Obj} (h : w.heap[b]? = some o) (hb : Cr.Within w w' B C) (ho : b < B ∨ C ≤ b) : w'.heap[b]? = some o := (hb.block b (Ch.blk_lt h) ho).trans h
theorem below_amid {D : Nat} {x w w' : World} {B C : Nat} (h : Below D x w) (hx : D ≤ x.heap.size) (ha : Amid w w' B C) (hB : D ≤ B) : Below D x w' := ⟨ha.os.trans h.os, ha.tape.trans h.tape, ha.output.trans h.output, Nat.le_trans h.size ha.size, fun b hb => (ha.block b (Nat.lt_of_lt_of_le (Nat.lt_of_lt_of_le hb hx) h.size) (.inl (Nat.lt_of_lt_of_le hb hB))).trans (h.block b hb)⟩
theorem below_within {D : Nat} {x w w' : World} {B C : Nat} (h : Below D x w) (hx : D ≤ x.heap.size) (ha : Cr.Within w w' B C) (hB : D ≤ B) : Below D x w' := ⟨ha.os.trans h.os, ha.tape.trans h.tape, ha.output.trans h.output, Nat.le_trans h.size ha.size, fun b hb => (ha.block b (Nat.lt_of_lt_of_le (Nat.lt_of_lt_of_le hb hx) h.size) (.inl (Nat.lt_of_lt_of_le hb hB))).trans (h.block b hb)⟩
theorem lensC {es : List StepD} (h : St.Small 1048576 es) : ∀ j, j < es.length → lenC es j ≤ 1048576 := fun j hj => by
  rw [lenC_eq hj]
  have := (h.at hj).2.1
  omega
theorem lensE {es : List StepD} (h : St.Small 1048576 es) : ∀ j, j < es.length → lenE es j ≤ 1048576 := fun j hj => by
  rw [lenE_eq hj]
  have := (h.at hj).2.2
  omega
theorem own_amid {w w' : World} {B C D : Nat} {v1 v2 v3 : Value} {r : RunD} (h : Cr.Own3 w D v1 v2 v3 r) (ha : Amid w w' B C) (hC : C ≤ D) : Cr.Own3 w' D v1 v2 v3 r := h.kept (fun b hb hb2 => ha.block b hb2 (.inr (by omega)))
/-- An answer in a variable. -/
structure Res (wB wx : World) (p : Nat) (s1 s2 s3 : Value) (cc : Int) (rr : RunD) : Prop where
  lo : wB.heap.size ≤ p
  blk : wx.heap[p]? = some (.cells #[.int .i64 cc, .int .i64 rr.status, .int .i64 rr.now, s1, s2, s3] 28)
  lst : Ch.At wx 0 s1 s2 s3 rr
  bel : Below wB.heap.size wB wx
theorem at6 {w : World} {B p : Nat} {v1 v2 v3 : Value} {r : RunD} (h : Ch.At w B v1 v2 v3 r) (hp : p < B) (a0 a1 a2 a3 a4 a5 : Value) : Ch.At ((((((w.setCell ⟨p, 0, none⟩ a0).setCell ⟨p, 1, none⟩ a1).setCell ⟨p, 2, none⟩ a2).setCell ⟨p, 3, none⟩ a3).setCell ⟨p, 4, none⟩ a4).setCell ⟨p, 5, none⟩ a5) B v1 v2 v3 r :=
  ⟨(((((h.vars.setBelow hp _).setBelow hp _).setBelow hp _).setBelow hp _).setBelow hp _).setBelow hp _, (((((h.marks.setBelow hp _).setBelow hp _).setBelow hp _).setBelow hp _).setBelow hp _).setBelow hp _, (((((h.dues.setBelow hp _).setBelow hp _).setBelow hp _).setBelow hp _).setBelow hp _).setBelow hp _⟩
/-- The variable was there ahead of the answer. -/
theorem res_a {wB q : World} {p B : Nat} {s1 s2 s3 : Value} {cc : Int} {rr : RunD} (hB : Below wB.heap.size wB q) (hp : wB.heap.size ≤ p) (hPA : q.heap[p]? = some (.cells #[.int .i64 0, .int .i64 0, .int .i64 0, .slice none 0 0, .slice none 0 0, .slice none 0 0] 28)) (hI : Ch.At q B s1 s2 s3 rr) (hl : p < B) :
    Res wB ((((((q.setCell ⟨p, 0, none⟩ (.int .i64 cc)).setCell ⟨p, 1, none⟩ (.int .i64 rr.status)).setCell ⟨p, 2, none⟩ (.int .i64 rr.now)).setCell ⟨p, 3, none⟩ s1).setCell ⟨p, 4, none⟩ s2).setCell ⟨p, 5, none⟩ s3) p s1 s2 s3 cc rr :=
  ⟨hp, set6 hPA _ _ _ _ _ _, (at6 hI hl _ _ _ _ _ _).mono (Nat.zero_le _), below6 hB hp _ _ _ _ _ _⟩
/-- The variable is newer than the answer. -/
theorem res_b {wB q0 q : World} {p : Nat} {s1 s2 s3 : Value} {cc : Int} {rr : RunD} (hB : Below wB.heap.size wB q) (hp : wB.heap.size ≤ p) (hPA : q.heap[p]? = some (.cells #[.int .i64 0, .int .i64 0, .int .i64 0, .slice none 0 0, .slice none 0 0, .slice none 0 0] 28)) (hI : Ch.At q0 0 s1 s2 s3 rr) (hq : Below q0.heap.size q0 q) (hl : q0.heap.size ≤ p) :
    Res wB ((((((q.setCell ⟨p, 0, none⟩ (.int .i64 cc)).setCell ⟨p, 1, none⟩ (.int .i64 rr.status)).setCell ⟨p, 2, none⟩ (.int .i64 rr.now)).setCell ⟨p, 3, none⟩ s1).setCell ⟨p, 4, none⟩ s2).setCell ⟨p, 5, none⟩ s3) p s1 s2 s3 cc rr :=
  ⟨hp, set6 hPA _ _ _ _ _ _, hI.below (below6 hq hl _ _ _ _ _ _), below6 hB hp _ _ _ _ _ _⟩
theorem new_below (w : World) (o : Obj) : Below w.heap.size w (w.alloc o) := (Below.refl _ w).alloc (Nat.le_refl _) _
theorem rr_small {n : Int} {w : World} {B : Nat} {v1 v2 v3 : Value} {r : RunD} (h : r.vars.length ≤ 1048576 ∧ r.marks.length ≤ 1048576 ∧ r.dues.length ≤ 1048576) : Ch.Small 1048576 r := ⟨by omega, by omega, by omega⟩
theorem own_c {w : World} {B C : Nat} {v : Value} {m : Nat} (h : Nu.Own w B C v m) : Ch.OwnC w B C v m := by
  obtain ⟨g, f, rfl, h1, h2, h3⟩ := h
  exact ⟨g, f, rfl, h1, h2, h3⟩
set_option maxRecDepth 100000 in
set_option maxHeartbeats 32000000 in
theorem walk (l : List StepD) (v : Value) (r : RunD) (v1 v2 v3 : Value) (x : Int) (vs : List Int) (vv : Value) (w : World) (hl : l.length ≤ maxLen) (kl : St.Ok l) (kr : Ch.Ok r) (hlv : vs.length ≤ maxLen) (h1 : St.At w 0 v l) (h2 : Ch.At w 0 v1 v2 v3 r) (h3 : Nu.At w 0 vv vs) (hr : Rul w) :
    Calls Tryz.prog 4 #[v, .agg #[.int .i64 r.status, .int .i64 r.now, v1, v2, v3], .int .i64 x, vv] w fun e w' => e = .returned (.bool true) ∧ Below w.heap.size w w' := by
  have hgl := hr.lt
  obtain ⟨b0, k0, rfl⟩ := h1.slice
  obtain ⟨bv, kv, rfl⟩ := h3.slice
  obtain ⟨a1, c1, rfl⟩ := h2.vars.slice
  obtain ⟨a2, c2, rfl⟩ := h2.marks.slice
  obtain ⟨a3, c3, rfl⟩ := h2.dues.slice
  obtain ⟨w0, e0⟩ : ∃ w0, w0 = w.alloc (.cells #[.int .i64 r.status, .int .i64 r.now, .slice a1 r.vars.length c1, .slice a2 r.marks.length c2, .slice a3 r.dues.length c3] 40) := ⟨_, rfl⟩
  have hb0 : Below w.heap.size w w0 := by rw [e0]; exact new_below w _
  have hk0 : w0.heap[w.heap.size]? = some (.cells #[.int .i64 r.status, .int .i64 r.now, .slice a1 r.vars.length c1, .slice a2 r.marks.length c2, .slice a3 r.dues.length c3] 40) := by rw [e0]; exact Ch.new_blk _ _
  have HZ1 := hid (szS 0 l _ 1048576 w0 (by omega) (by omega) hl kl (h1.below hb0))
  have H1 := hid h1
  have H2 := hid h2
  have HKR := hid kr
  have H3 := hid h3
  have HR := hid hr
  have HB0 := hid hb0
  clear h1 hl kl hr hb0 h2 kr h3
  unfold maxLen at hlv
  by_cases qv : (1048576 : Int) < (vs.length : Int)
  · go_enter Tryz.func4, Tryz.ntmps4
    go_wp2
    go_ret
    exact ⟨rfl, by rw [← e0]; exact HB0.out⟩
  have hvl : vs.length ≤ 1048576 := by omega
  go_enter Tryz.func4, Tryz.ntmps4
  go_wp2_with fail
  rw [← e0]
  clear e0
  refine HZ1.out.mono ?_
  rintro e w1 ⟨⟨r1, rfl, r1a, r1b, r1c⟩, hb1⟩
  have HB1 := hid (HB0.out.trans (hb1.mono HB0.out.size))
  have hk1 : w1.heap[w.heap.size]? = some (.cells #[.int .i64 r.status, .int .i64 r.now, .slice a1 r.vars.length c1, .slice a2 r.marks.length c2, .slice a3 r.dues.length c3] 40) := blk_below hk0 hb1
  clear hb1 HZ1 HB0 hk0
  by_cases q1 : r1 < 0
  · go_wp2
    go_ret
    exact ⟨rfl, HB1.out⟩
  have S1 := hid (r1c (by omega))
  clear r1c
  have d0 := Ch.blk_cell hk1 0
  have d1 := Ch.blk_cell hk1 1
  have d2 := Ch.blk_cell hk1 2
  have d3 := Ch.blk_cell hk1 3
  have d4 := Ch.blk_cell hk1 4
  have HZ2 := hid (Ch.sz 0 r _ _ _ r1 w1 (by omega) (by omega) HKR.out (H2.out.below HB1.out))
  have HK1 := hid hk1
  clear hk1
  go_wp2_with fail
  refine HZ2.out.mono ?_
  rintro e w2 ⟨⟨r2, rfl, r2a, r2b, r2c⟩, hb2⟩
  have HB2 := hid (HB1.out.trans (hb2.mono HB1.out.size))
  have HK2 : Hid (w2.heap[w.heap.size]? = some (.cells #[.int .i64 r.status, .int .i64 r.now, .slice a1 r.vars.length c1, .slice a2 r.marks.length c2, .slice a3 r.dues.length c3] 40)) := hid (blk_below HK1.out hb2)
  clear hb2 HK1 HZ2 d0 d1 d2 d3 d4 HB1
  by_cases q2 : r2 < 0
  · go_wp2
    go_ret
    exact ⟨rfl, HB2.out⟩
  have S2 := hid ((r2c (by omega)).mono r1b)
  clear r2c
  have hln := S1.out.1
  have HT1 := hid (fun w' (hb : Below w.heap.size w w') => toS 0 l _ w' S1.out (H1.out.below hb))
  have HT2 := hid (fun w' (hb : Below w.heap.size w w') => toS2 0 l _ w' S1.out (H1.out.below hb))
  have HC1 := hid (fun w' (hb : Below w.heap.size w w') => Ch.to1 0 r _ _ _ w' S2.out (H2.out.below hb))
  have HC2 := hid (fun w' (hb : Below w.heap.size w w') => Ch.to2 0 r _ _ _ w' S2.out (H2.out.below hb))
  have HV1 := hid (fun w' (hb : Below w.heap.size w w') => Nu.toS 0 vs _ w' hvl (H3.out.below hb))
  have HV2 := hid (fun w' (hb : Below w.heap.size w w') => Nu.toS2 0 vs _ w' hvl (H3.out.below hb))
  have HIK := hid (fun u u1 u2 u3 uv w' (hb : Below w.heap.size w w') (hu : St.At w' 0 u l) (hc : Ch.At w' 0 u1 u2 u3 r) (hv : Nu.At w' 0 uv vs) => implDone l r x vs u u1 u2 u3 uv w' S1.out S2.out hvl hu hc hv (HR.out.below hb hgl))
  have HSK := hid (fun B u u1 u2 u3 uv w' (hu : St.At w' B u l) (hc : Ch.At w' 0 u1 u2 u3 r) (hv : Nu.At w' 0 uv vs) => specDoneChart B l r x vs u u1 u2 u3 uv w' S1.out S2.out hvl hu hc hv)
  have hrs : (doneR l r x vs).vars.length ≤ 1048576 ∧ (doneR l r x vs).marks.length ≤ 1048576 ∧ (doneR l r x vs).dues.length ≤ 1048576 := Kv.done_small
  clear H1 H2 H3
  generalize hcc : doneC l r x vs = cc at *
  generalize hxx : doneR l r x vs = rr at *
  clear hcc hxx
  have SR : Hid (Ch.Small 1048576 rr) := hid ⟨by omega, by omega, by omega⟩
  clear hrs
  have HK2d : Hid (w2.drew.heap[w.heap.size]? = some (.cells #[.int .i64 r.status, .int .i64 r.now, .slice a1 r.vars.length c1, .slice a2 r.marks.length c2, .slice a3 r.dues.length c3] 40)) := hid HK2.out
  have HB2d := hid HB2.out.drew
  have HKB : Hid (w2.heap[w.heap.size]? = some (.cells #[.int .i64 r.status, .int .i64 r.now, .slice a1 r.vars.length c1, .slice a2 r.marks.length c2, .slice a3 r.dues.length c3] 40)) := hid HK2.out
  have HBs : Hid (Below w2.heap.size w2 w2.drew) := hid (Below.refl _ w2).drew
  go_wp2
  go_cut [10] from 32 (fun s10 wx => ∃ p m1 n1 m2 n2 m3 n3, s10 = .pointer (some ⟨p, 0, none⟩) ∧ Hid (Res w2 wx p (.slice m1 rr.vars.length n1) (.slice m2 rr.marks.length n2) (.slice m3 rr.dues.length n3) cc rr))
  case first =>
    refine wp_region_held_drew (S := fun wx => wx.heap[w.heap.size]? = some (.cells #[.int .i64 r.status, .int .i64 r.now, .slice a1 r.vars.length c1, .slice a2 r.marks.length c2, .slice a3 r.dues.length c3] 40)) (by kernel_rfl) HK2d.out (fun hHeld => ?_)
    refine wpAnyH_take (i := 0) (v := .slice b0 l.length k0) rfl (by kernel_rfl) (by kernel_rfl) (by kernel_rfl) (fun _ _ _ h => h) (Or.inl ⟨by kernel_rfl, by intro w hSw; (try dsimp only at hSw); go_simp⟩) (by assumption) ?_
    simp only [Act.put, List.setIfInBounds_toArray, List.set_cons_zero, List.set_cons_succ]
    refine wpAnyH_take (i := 2) (v := .agg #[.int .i64 r.status, .int .i64 r.now, .slice a1 r.vars.length c1, .slice a2 r.marks.length c2, .slice a3 r.dues.length c3]) rfl (by kernel_rfl) (by kernel_rfl) (by kernel_rfl) (fun _ _ _ h => h) (Or.inl ⟨by kernel_rfl, by intro w hSw; (try dsimp only at hSw); have m0 := Ch.blk_cell hSw 0; have m1 := Ch.blk_cell hSw 1; have m2 := Ch.blk_cell hSw 2; have m3 := Ch.blk_cell hSw 3; have m4 := Ch.blk_cell hSw 4; clear hSw; go_simp⟩) (by assumption) ?_
    simp only [Act.put, List.setIfInBounds_toArray, List.set_cons_zero, List.set_cons_succ]
    refine wpAnyH_take (i := 4) (v := .int .i64 x) rfl (by kernel_rfl) (by kernel_rfl) (by kernel_rfl) (fun _ _ _ h => h) (Or.inl ⟨by kernel_rfl, by intro w hSw; (try dsimp only at hSw); go_simp⟩) (by assumption) ?_
    simp only [Act.put, List.setIfInBounds_toArray, List.set_cons_zero, List.set_cons_succ]
    refine wpAnyH_take (i := 5) (v := .slice bv vs.length kv) rfl (by kernel_rfl) (by kernel_rfl) (by kernel_rfl) (fun _ _ _ h => h) (Or.inl ⟨by kernel_rfl, by intro w hSw; (try dsimp only at hSw); go_simp⟩) (by assumption) ?_
    simp only [Act.put, List.setIfInBounds_toArray, List.set_cons_zero, List.set_cons_succ]
    refine wpAnyH_ready (rs := [1, 8]) (by kernel_rfl) (by simp) ?_
    refine (AllReadyH.cons rfl (fun K hK => ?_) (AllReadyH.cons rfl (fun K hK => ?_) AllReadyH.nil))
    · go_simp
      go_at_call 9
      refine (HT1.out _ HB2d.out).mono ?_
      rintro e q1 ⟨u1, rfl, hu1, hb1⟩
      obtain ⟨x0, y0, rfl⟩ := hu1.slice
      have U1 := hid hu1
      clear hu1
      have BW1 := hid (HB2d.out.trans (hb1.mono HB2d.out.size))
      have BS1 := hid (HBs.out.trans (hb1.mono HBs.out.size))
      have hKK1 : q1.heap[w.heap.size]? = some (.cells #[.int .i64 r.status, .int .i64 r.now, .slice a1 r.vars.length c1, .slice a2 r.marks.length c2, .slice a3 r.dues.length c3] 40) := blk_below HKB.out BS1.out
      clear hb1
      go_wp2_with fail
      refine hK.out _ _ hKK1 (fun hHeld => ?_)
      clear hK K
      try simp only [Act.put, List.setIfInBounds_toArray, List.set_cons_zero, List.set_cons_succ]
      refine wpAnyH_ready (rs := [3, 8]) (by kernel_rfl) (by simp) ?_
      refine (AllReadyH.cons rfl (fun K hK => ?_) (AllReadyH.cons rfl (fun K hK => ?_) AllReadyH.nil))
      · go_simp
        go_at_call 21
        refine (HC1.out _ BW1.out).mono ?_
        rintro e q2 ⟨p1, p2, p3, rfl, hu2, hb2⟩
        obtain ⟨x1, y1, rfl⟩ := hu2.vars.slice
        obtain ⟨x2, y2, rfl⟩ := hu2.marks.slice
        obtain ⟨x3, y3, rfl⟩ := hu2.dues.slice
        have KK2 := hid (hu2.mono (Nat.zero_le _))
        clear hu2
        have BW2 := hid (BW1.out.trans (hb2.mono BW1.out.size))
        have BS2 := hid (BS1.out.trans (hb2.mono BS1.out.size))
        have Ux2 := hid (U1.out.below hb2)
        have hKK2 : q2.heap[w.heap.size]? = some (.cells #[.int .i64 r.status, .int .i64 r.now, .slice a1 r.vars.length c1, .slice a2 r.marks.length c2, .slice a3 r.dues.length c3] 40) := blk_below HKB.out BS2.out
        clear hb2
        go_wp2_with fail
        refine hK.out _ _ hKK2 (fun hHeld => ?_)
        clear hK K
        try simp only [Act.put, List.setIfInBounds_toArray, List.set_cons_zero, List.set_cons_succ]
        refine wpAnyH_ready (rs := [6, 8]) (by kernel_rfl) (by simp) ?_
        refine (AllReadyH.cons rfl (fun K hK => ?_) (AllReadyH.cons rfl (fun K hK => ?_) AllReadyH.nil))
        · go_simp
          go_at_call 10
          refine (HV1.out _ BW2.out).mono ?_
          rintro e q3 ⟨u2, rfl, hu3, hb3⟩
          obtain ⟨x9, y9, rfl⟩ := hu3.slice
          have VV3 := hid (hu3.mono (Nat.zero_le _))
          clear hu3
          have BW3 := hid (BW2.out.trans (hb3.mono BW2.out.size))
          have BS3 := hid (BS2.out.trans (hb3.mono BS2.out.size))
          have Ux3 := hid (Ux2.out.below hb3)
          have KKx3 := hid (KK2.out.below hb3)
          have hKK3 : q3.heap[w.heap.size]? = some (.cells #[.int .i64 r.status, .int .i64 r.now, .slice a1 r.vars.length c1, .slice a2 r.marks.length c2, .slice a3 r.dues.length c3] 40) := blk_below HKB.out BS3.out
          clear hb3
          go_wp2_with fail
          refine hK.out _ _ hKK3 (fun hHeld => ?_)
          clear hK K
          try simp only [Act.put, List.setIfInBounds_toArray, List.set_cons_zero, List.set_cons_succ]
          refine wpAnyH_ready (rs := [7, 8]) (by kernel_rfl) (by simp) ?_
          refine (AllReadyH.cons rfl (fun K hK => ?_) (AllReadyH.cons rfl (fun K hK => ?_) AllReadyH.nil))
          · go_simp
            go_at_call 20
            refine (HSK.out _ _ _ _ _ _ _ Ux3.out KKx3.out VV3.out).mono ?_
            rintro e q4 ⟨s1, s2, s3, rfl, hI, hb4⟩
            have II4 := hid hI
            obtain ⟨m1, n1, rfl⟩ := hI.vars.slice
            obtain ⟨m2, n2, rfl⟩ := hI.marks.slice
            obtain ⟨m3, n3, rfl⟩ := hI.dues.slice
            clear hI
            have BW4 := hid (BW3.out.trans (hb4.mono BW3.out.size))
            have BS4 := hid (BS3.out.trans (hb4.mono BS3.out.size))
            have hKK4 : q4.heap[w.heap.size]? = some (.cells #[.int .i64 r.status, .int .i64 r.now, .slice a1 r.vars.length c1, .slice a2 r.marks.length c2, .slice a3 r.dues.length c3] 40) := blk_below HKB.out BS4.out
            clear hb4
            go_wp2_with fail
            refine hK.out _ _ hKK4 (fun hHeld => ?_)
            clear hK K
            try simp only [Act.put, List.setIfInBounds_toArray, List.set_cons_zero, List.set_cons_succ]
            refine wpAnyH_ready (rs := [8]) (by kernel_rfl) (by simp) ?_
            refine (AllReadyH.cons rfl (fun K hK => ?_) AllReadyH.nil)
            go_simp
            obtain ⟨q5, eq5⟩ : ∃ q5, q5 = (q4.alloc (.cells #[.int .i64 0, .int .i64 0, .int .i64 0, .slice none 0 0, .slice none 0 0, .slice none 0 0] 28)) := ⟨_, rfl⟩
            have hb5 : Below q4.heap.size q4 q5 := by rw [eq5]; exact new_below q4 _
            have PA5 : Hid (q5.heap[q4.heap.size]? = some (.cells #[.int .i64 0, .int .i64 0, .int .i64 0, .slice none 0 0, .slice none 0 0, .slice none 0 0] 28)) := hid (by rw [eq5]; exact Ch.new_blk _ _)
            rw [← eq5]
            clear eq5
            have LP5 : Hid (w2.heap.size ≤ q4.heap.size) := hid BS4.out.size
            have BW5 := hid (BW4.out.trans (hb5.mono BW4.out.size))
            have BS5 := hid (BS4.out.trans (hb5.mono BS4.out.size))
            have BF5 := hid hb5
            have LF5 : Hid (q4.heap.size ≤ q4.heap.size) := hid (Nat.le_refl _)
            have hKK5 : q5.heap[w.heap.size]? = some (.cells #[.int .i64 r.status, .int .i64 r.now, .slice a1 r.vars.length c1, .slice a2 r.marks.length c2, .slice a3 r.dues.length c3] 40) := blk_below HKB.out BS5.out
            clear hb5
            refine hK.out _ _ hKK5 (fun hHeld => ?_)
            clear hK K
            try simp only [Act.put, List.setIfInBounds_toArray, List.set_cons_zero, List.set_cons_succ]
            have t0 := Ch.blk_free PA5.out 0
            have t1 := Ch.blk_free PA5.out 1
            have t2 := Ch.blk_free PA5.out 2
            have t3 := Ch.blk_free PA5.out 3
            have t4 := Ch.blk_free PA5.out 4
            have t5 := Ch.blk_free PA5.out 5
            have z0 : q5.cell? ⟨q4.heap.size, 0, none⟩ = some (.int .i64 0) := Ch.blk_cell PA5.out 0
            have z1 : q5.cell? ⟨q4.heap.size, 1, none⟩ = some (.int .i64 0) := Ch.blk_cell PA5.out 1
            have z2 : q5.cell? ⟨q4.heap.size, 2, none⟩ = some (.int .i64 0) := Ch.blk_cell PA5.out 2
            have z3 : q5.cell? ⟨q4.heap.size, 3, none⟩ = some (.slice none 0 0) := Ch.blk_cell PA5.out 3
            have z4 : q5.cell? ⟨q4.heap.size, 4, none⟩ = some (.slice none 0 0) := Ch.blk_cell PA5.out 4
            have z5 : q5.cell? ⟨q4.heap.size, 5, none⟩ = some (.slice none 0 0) := Ch.blk_cell PA5.out 5
            have HRS := hid (res_b (cc := cc) BS5.out LP5.out PA5.out (II4.out.mono (Nat.zero_le _)) BF5.out LF5.out)
            have hKS : ((((((q5.setCell ⟨q4.heap.size, 0, none⟩ (.int .i64 cc)).setCell ⟨q4.heap.size, 1, none⟩ (.int .i64 rr.status)).setCell ⟨q4.heap.size, 2, none⟩ (.int .i64 rr.now)).setCell ⟨q4.heap.size, 3, none⟩ (.slice m1 rr.vars.length n1)).setCell ⟨q4.heap.size, 4, none⟩ (.slice m2 rr.marks.length n2)).setCell ⟨q4.heap.size, 5, none⟩ (.slice m3 rr.dues.length n3)).heap[w.heap.size]? = some (.cells #[.int .i64 r.status, .int .i64 r.now, .slice a1 r.vars.length c1, .slice a2 r.marks.length c2, .slice a3 r.dues.length c3] 40) := blk_below HKB.out HRS.out.bel
            refine wpAnyH_ready (rs := [9]) (by kernel_rfl) (by simp) ?_
            refine AllReadyH.cons rfl (fun K hK => ?_) AllReadyH.nil
            go_simp
            refine hK.out _ _ hKS (fun hHeld => ?_)
            clear hK K
            try simp only [Act.put, List.setIfInBounds_toArray, List.set_cons_zero, List.set_cons_succ]
            refine wpAnyH_done (by kernel_rfl) ?_ _
            go_wp2_with fail
            go_meet
            exact ⟨_, _, _, _, _, _, _, rfl, HRS⟩
          · go_simp
            obtain ⟨q4, eq4⟩ : ∃ q4, q4 = (q3.alloc (.cells #[.int .i64 0, .int .i64 0, .int .i64 0, .slice none 0 0, .slice none 0 0, .slice none 0 0] 28)) := ⟨_, rfl⟩
            have hb4 : Below q3.heap.size q3 q4 := by rw [eq4]; exact new_below q3 _
            have PA4 : Hid (q4.heap[q3.heap.size]? = some (.cells #[.int .i64 0, .int .i64 0, .int .i64 0, .slice none 0 0, .slice none 0 0, .slice none 0 0] 28)) := hid (by rw [eq4]; exact Ch.new_blk _ _)
            rw [← eq4]
            clear eq4
            have LP4 : Hid (w2.heap.size ≤ q3.heap.size) := hid BS3.out.size
            have BW4 := hid (BW3.out.trans (hb4.mono BW3.out.size))
            have BS4 := hid (BS3.out.trans (hb4.mono BS3.out.size))
            have Ux4 := hid (Ux3.out.below hb4)
            have KKx4 := hid (KKx3.out.below hb4)
            have VVx4 := hid (VV3.out.below hb4)
            have hKK4 : q4.heap[w.heap.size]? = some (.cells #[.int .i64 r.status, .int .i64 r.now, .slice a1 r.vars.length c1, .slice a2 r.marks.length c2, .slice a3 r.dues.length c3] 40) := blk_below HKB.out BS4.out
            clear hb4
            refine hK.out _ _ hKK4 (fun hHeld => ?_)
            clear hK K
            try simp only [Act.put, List.setIfInBounds_toArray, List.set_cons_zero, List.set_cons_succ]
            refine wpAnyH_ready (rs := [7]) (by kernel_rfl) (by simp) ?_
            refine (AllReadyH.cons rfl (fun K hK => ?_) AllReadyH.nil)
            go_simp
            go_at_call 20
            refine (HSK.out _ _ _ _ _ _ _ Ux4.out KKx4.out VVx4.out).mono ?_
            rintro e q5 ⟨s1, s2, s3, rfl, hI, hb5⟩
            have II5 := hid hI
            obtain ⟨m1, n1, rfl⟩ := hI.vars.slice
            obtain ⟨m2, n2, rfl⟩ := hI.marks.slice
            obtain ⟨m3, n3, rfl⟩ := hI.dues.slice
            clear hI
            have BW5 := hid (BW4.out.trans (hb5.mono BW4.out.size))
            have BS5 := hid (BS4.out.trans (hb5.mono BS4.out.size))
            have PX5 : Hid (q5.heap[q3.heap.size]? = some (.cells #[.int .i64 0, .int .i64 0, .int .i64 0, .slice none 0 0, .slice none 0 0, .slice none 0 0] 28)) := hid (blk_below PA4.out hb5)
            have hKK5 : q5.heap[w.heap.size]? = some (.cells #[.int .i64 r.status, .int .i64 r.now, .slice a1 r.vars.length c1, .slice a2 r.marks.length c2, .slice a3 r.dues.length c3] 40) := blk_below HKB.out BS5.out
            clear hb5
            go_wp2_with fail
            refine hK.out _ _ hKK5 (fun hHeld => ?_)
            clear hK K
            try simp only [Act.put, List.setIfInBounds_toArray, List.set_cons_zero, List.set_cons_succ]
            have t0 := Ch.blk_free PX5.out 0
            have t1 := Ch.blk_free PX5.out 1
            have t2 := Ch.blk_free PX5.out 2
            have t3 := Ch.blk_free PX5.out 3
            have t4 := Ch.blk_free PX5.out 4
            have t5 := Ch.blk_free PX5.out 5
            have z0 : q5.cell? ⟨q3.heap.size, 0, none⟩ = some (.int .i64 0) := Ch.blk_cell PX5.out 0
            have z1 : q5.cell? ⟨q3.heap.size, 1, none⟩ = some (.int .i64 0) := Ch.blk_cell PX5.out 1
            have z2 : q5.cell? ⟨q3.heap.size, 2, none⟩ = some (.int .i64 0) := Ch.blk_cell PX5.out 2
            have z3 : q5.cell? ⟨q3.heap.size, 3, none⟩ = some (.slice none 0 0) := Ch.blk_cell PX5.out 3
            have z4 : q5.cell? ⟨q3.heap.size, 4, none⟩ = some (.slice none 0 0) := Ch.blk_cell PX5.out 4
            have z5 : q5.cell? ⟨q3.heap.size, 5, none⟩ = some (.slice none 0 0) := Ch.blk_cell PX5.out 5
            have hpl : q3.heap.size < q4.heap.size := Ch.blk_lt PA4.out
            have HRS := hid (res_a (cc := cc) BS5.out LP4.out PX5.out II5.out hpl)
            have hKS : ((((((q5.setCell ⟨q3.heap.size, 0, none⟩ (.int .i64 cc)).setCell ⟨q3.heap.size, 1, none⟩ (.int .i64 rr.status)).setCell ⟨q3.heap.size, 2, none⟩ (.int .i64 rr.now)).setCell ⟨q3.heap.size, 3, none⟩ (.slice m1 rr.vars.length n1)).setCell ⟨q3.heap.size, 4, none⟩ (.slice m2 rr.marks.length n2)).setCell ⟨q3.heap.size, 5, none⟩ (.slice m3 rr.dues.length n3)).heap[w.heap.size]? = some (.cells #[.int .i64 r.status, .int .i64 r.now, .slice a1 r.vars.length c1, .slice a2 r.marks.length c2, .slice a3 r.dues.length c3] 40) := blk_below HKB.out HRS.out.bel
            refine wpAnyH_ready (rs := [9]) (by kernel_rfl) (by simp) ?_
            refine AllReadyH.cons rfl (fun K hK => ?_) AllReadyH.nil
            go_simp
            refine hK.out _ _ hKS (fun hHeld => ?_)
            clear hK K
            try simp only [Act.put, List.setIfInBounds_toArray, List.set_cons_zero, List.set_cons_succ]
            refine wpAnyH_done (by kernel_rfl) ?_ _
            go_wp2_with fail
            go_meet
            exact ⟨_, _, _, _, _, _, _, rfl, HRS⟩
        · go_simp
          obtain ⟨q3, eq3⟩ : ∃ q3, q3 = (q2.alloc (.cells #[.int .i64 0, .int .i64 0, .int .i64 0, .slice none 0 0, .slice none 0 0, .slice none 0 0] 28)) := ⟨_, rfl⟩
          have hb3 : Below q2.heap.size q2 q3 := by rw [eq3]; exact new_below q2 _
          have PA3 : Hid (q3.heap[q2.heap.size]? = some (.cells #[.int .i64 0, .int .i64 0, .int .i64 0, .slice none 0 0, .slice none 0 0, .slice none 0 0] 28)) := hid (by rw [eq3]; exact Ch.new_blk _ _)
          rw [← eq3]
          clear eq3
          have LP3 : Hid (w2.heap.size ≤ q2.heap.size) := hid BS2.out.size
          have BW3 := hid (BW2.out.trans (hb3.mono BW2.out.size))
          have BS3 := hid (BS2.out.trans (hb3.mono BS2.out.size))
          have Ux3 := hid (Ux2.out.below hb3)
          have KKx3 := hid (KK2.out.below hb3)
          have hKK3 : q3.heap[w.heap.size]? = some (.cells #[.int .i64 r.status, .int .i64 r.now, .slice a1 r.vars.length c1, .slice a2 r.marks.length c2, .slice a3 r.dues.length c3] 40) := blk_below HKB.out BS3.out
          clear hb3
          refine hK.out _ _ hKK3 (fun hHeld => ?_)
          clear hK K
          try simp only [Act.put, List.setIfInBounds_toArray, List.set_cons_zero, List.set_cons_succ]
          refine wpAnyH_ready (rs := [6]) (by kernel_rfl) (by simp) ?_
          refine (AllReadyH.cons rfl (fun K hK => ?_) AllReadyH.nil)
          go_simp
          go_at_call 10
          refine (HV1.out _ BW3.out).mono ?_
          rintro e q4 ⟨u2, rfl, hu3, hb4⟩
          obtain ⟨x9, y9, rfl⟩ := hu3.slice
          have VV4 := hid (hu3.mono (Nat.zero_le _))
          clear hu3
          have BW4 := hid (BW3.out.trans (hb4.mono BW3.out.size))
          have BS4 := hid (BS3.out.trans (hb4.mono BS3.out.size))
          have Ux4 := hid (Ux3.out.below hb4)
          have KKx4 := hid (KKx3.out.below hb4)
          have PX4 : Hid (q4.heap[q2.heap.size]? = some (.cells #[.int .i64 0, .int .i64 0, .int .i64 0, .slice none 0 0, .slice none 0 0, .slice none 0 0] 28)) := hid (blk_below PA3.out hb4)
          have hKK4 : q4.heap[w.heap.size]? = some (.cells #[.int .i64 r.status, .int .i64 r.now, .slice a1 r.vars.length c1, .slice a2 r.marks.length c2, .slice a3 r.dues.length c3] 40) := blk_below HKB.out BS4.out
          clear hb4
          go_wp2_with fail
          refine hK.out _ _ hKK4 (fun hHeld => ?_)
          clear hK K
          try simp only [Act.put, List.setIfInBounds_toArray, List.set_cons_zero, List.set_cons_succ]
          refine wpAnyH_ready (rs := [7]) (by kernel_rfl) (by simp) ?_
          refine (AllReadyH.cons rfl (fun K hK => ?_) AllReadyH.nil)
          go_simp
          go_at_call 20
          refine (HSK.out _ _ _ _ _ _ _ Ux4.out KKx4.out VV4.out).mono ?_
          rintro e q5 ⟨s1, s2, s3, rfl, hI, hb5⟩
          have II5 := hid hI
          obtain ⟨m1, n1, rfl⟩ := hI.vars.slice
          obtain ⟨m2, n2, rfl⟩ := hI.marks.slice
          obtain ⟨m3, n3, rfl⟩ := hI.dues.slice
          clear hI
          have BW5 := hid (BW4.out.trans (hb5.mono BW4.out.size))
          have BS5 := hid (BS4.out.trans (hb5.mono BS4.out.size))
          have PX5 : Hid (q5.heap[q2.heap.size]? = some (.cells #[.int .i64 0, .int .i64 0, .int .i64 0, .slice none 0 0, .slice none 0 0, .slice none 0 0] 28)) := hid (blk_below PX4.out hb5)
          have hKK5 : q5.heap[w.heap.size]? = some (.cells #[.int .i64 r.status, .int .i64 r.now, .slice a1 r.vars.length c1, .slice a2 r.marks.length c2, .slice a3 r.dues.length c3] 40) := blk_below HKB.out BS5.out
          clear hb5
          go_wp2_with fail
          refine hK.out _ _ hKK5 (fun hHeld => ?_)
          clear hK K
          try simp only [Act.put, List.setIfInBounds_toArray, List.set_cons_zero, List.set_cons_succ]
          have t0 := Ch.blk_free PX5.out 0
          have t1 := Ch.blk_free PX5.out 1
          have t2 := Ch.blk_free PX5.out 2
          have t3 := Ch.blk_free PX5.out 3
          have t4 := Ch.blk_free PX5.out 4
          have t5 := Ch.blk_free PX5.out 5
          have z0 : q5.cell? ⟨q2.heap.size, 0, none⟩ = some (.int .i64 0) := Ch.blk_cell PX5.out 0
          have z1 : q5.cell? ⟨q2.heap.size, 1, none⟩ = some (.int .i64 0) := Ch.blk_cell PX5.out 1
          have z2 : q5.cell? ⟨q2.heap.size, 2, none⟩ = some (.int .i64 0) := Ch.blk_cell PX5.out 2
          have z3 : q5.cell? ⟨q2.heap.size, 3, none⟩ = some (.slice none 0 0) := Ch.blk_cell PX5.out 3
          have z4 : q5.cell? ⟨q2.heap.size, 4, none⟩ = some (.slice none 0 0) := Ch.blk_cell PX5.out 4
          have z5 : q5.cell? ⟨q2.heap.size, 5, none⟩ = some (.slice none 0 0) := Ch.blk_cell PX5.out 5
          have hpl : q2.heap.size < q4.heap.size := Ch.blk_lt PX4.out
          have HRS := hid (res_a (cc := cc) BS5.out LP3.out PX5.out II5.out hpl)
          have hKS : ((((((q5.setCell ⟨q2.heap.size, 0, none⟩ (.int .i64 cc)).setCell ⟨q2.heap.size, 1, none⟩ (.int .i64 rr.status)).setCell ⟨q2.heap.size, 2, none⟩ (.int .i64 rr.now)).setCell ⟨q2.heap.size, 3, none⟩ (.slice m1 rr.vars.length n1)).setCell ⟨q2.heap.size, 4, none⟩ (.slice m2 rr.marks.length n2)).setCell ⟨q2.heap.size, 5, none⟩ (.slice m3 rr.dues.length n3)).heap[w.heap.size]? = some (.cells #[.int .i64 r.status, .int .i64 r.now, .slice a1 r.vars.length c1, .slice a2 r.marks.length c2, .slice a3 r.dues.length c3] 40) := blk_below HKB.out HRS.out.bel
          refine wpAnyH_ready (rs := [9]) (by kernel_rfl) (by simp) ?_
          refine AllReadyH.cons rfl (fun K hK => ?_) AllReadyH.nil
          go_simp
          refine hK.out _ _ hKS (fun hHeld => ?_)
          clear hK K
          try simp only [Act.put, List.setIfInBounds_toArray, List.set_cons_zero, List.set_cons_succ]
          refine wpAnyH_done (by kernel_rfl) ?_ _
          go_wp2_with fail
          go_meet
          exact ⟨_, _, _, _, _, _, _, rfl, HRS⟩
      · go_simp
        obtain ⟨q2, eq2⟩ : ∃ q2, q2 = (q1.alloc (.cells #[.int .i64 0, .int .i64 0, .int .i64 0, .slice none 0 0, .slice none 0 0, .slice none 0 0] 28)) := ⟨_, rfl⟩
        have hb2 : Below q1.heap.size q1 q2 := by rw [eq2]; exact new_below q1 _
        have PA2 : Hid (q2.heap[q1.heap.size]? = some (.cells #[.int .i64 0, .int .i64 0, .int .i64 0, .slice none 0 0, .slice none 0 0, .slice none 0 0] 28)) := hid (by rw [eq2]; exact Ch.new_blk _ _)
        rw [← eq2]
        clear eq2
        have LP2 : Hid (w2.heap.size ≤ q1.heap.size) := hid BS1.out.size
        have BW2 := hid (BW1.out.trans (hb2.mono BW1.out.size))
        have BS2 := hid (BS1.out.trans (hb2.mono BS1.out.size))
        have Ux2 := hid (U1.out.below hb2)
        have hKK2 : q2.heap[w.heap.size]? = some (.cells #[.int .i64 r.status, .int .i64 r.now, .slice a1 r.vars.length c1, .slice a2 r.marks.length c2, .slice a3 r.dues.length c3] 40) := blk_below HKB.out BS2.out
        clear hb2
        refine hK.out _ _ hKK2 (fun hHeld => ?_)
        clear hK K
        try simp only [Act.put, List.setIfInBounds_toArray, List.set_cons_zero, List.set_cons_succ]
        refine wpAnyH_ready (rs := [3]) (by kernel_rfl) (by simp) ?_
        refine (AllReadyH.cons rfl (fun K hK => ?_) AllReadyH.nil)
        go_simp
        go_at_call 21
        refine (HC1.out _ BW2.out).mono ?_
        rintro e q3 ⟨p1, p2, p3, rfl, hu2, hb3⟩
        obtain ⟨x1, y1, rfl⟩ := hu2.vars.slice
        obtain ⟨x2, y2, rfl⟩ := hu2.marks.slice
        obtain ⟨x3, y3, rfl⟩ := hu2.dues.slice
        have KK3 := hid (hu2.mono (Nat.zero_le _))
        clear hu2
        have BW3 := hid (BW2.out.trans (hb3.mono BW2.out.size))
        have BS3 := hid (BS2.out.trans (hb3.mono BS2.out.size))
        have Ux3 := hid (Ux2.out.below hb3)
        have PX3 : Hid (q3.heap[q1.heap.size]? = some (.cells #[.int .i64 0, .int .i64 0, .int .i64 0, .slice none 0 0, .slice none 0 0, .slice none 0 0] 28)) := hid (blk_below PA2.out hb3)
        have hKK3 : q3.heap[w.heap.size]? = some (.cells #[.int .i64 r.status, .int .i64 r.now, .slice a1 r.vars.length c1, .slice a2 r.marks.length c2, .slice a3 r.dues.length c3] 40) := blk_below HKB.out BS3.out
        clear hb3
        go_wp2_with fail
        refine hK.out _ _ hKK3 (fun hHeld => ?_)
        clear hK K
        try simp only [Act.put, List.setIfInBounds_toArray, List.set_cons_zero, List.set_cons_succ]
        refine wpAnyH_ready (rs := [6]) (by kernel_rfl) (by simp) ?_
        refine (AllReadyH.cons rfl (fun K hK => ?_) AllReadyH.nil)
        go_simp
        go_at_call 10
        refine (HV1.out _ BW3.out).mono ?_
        rintro e q4 ⟨u2, rfl, hu3, hb4⟩
        obtain ⟨x9, y9, rfl⟩ := hu3.slice
        have VV4 := hid (hu3.mono (Nat.zero_le _))
        clear hu3
        have BW4 := hid (BW3.out.trans (hb4.mono BW3.out.size))
        have BS4 := hid (BS3.out.trans (hb4.mono BS3.out.size))
        have Ux4 := hid (Ux3.out.below hb4)
        have KKx4 := hid (KK3.out.below hb4)
        have PX4 : Hid (q4.heap[q1.heap.size]? = some (.cells #[.int .i64 0, .int .i64 0, .int .i64 0, .slice none 0 0, .slice none 0 0, .slice none 0 0] 28)) := hid (blk_below PX3.out hb4)
        have hKK4 : q4.heap[w.heap.size]? = some (.cells #[.int .i64 r.status, .int .i64 r.now, .slice a1 r.vars.length c1, .slice a2 r.marks.length c2, .slice a3 r.dues.length c3] 40) := blk_below HKB.out BS4.out
        clear hb4
        go_wp2_with fail
        refine hK.out _ _ hKK4 (fun hHeld => ?_)
        clear hK K
        try simp only [Act.put, List.setIfInBounds_toArray, List.set_cons_zero, List.set_cons_succ]
        refine wpAnyH_ready (rs := [7]) (by kernel_rfl) (by simp) ?_
        refine (AllReadyH.cons rfl (fun K hK => ?_) AllReadyH.nil)
        go_simp
        go_at_call 20
        refine (HSK.out _ _ _ _ _ _ _ Ux4.out KKx4.out VV4.out).mono ?_
        rintro e q5 ⟨s1, s2, s3, rfl, hI, hb5⟩
        have II5 := hid hI
        obtain ⟨m1, n1, rfl⟩ := hI.vars.slice
        obtain ⟨m2, n2, rfl⟩ := hI.marks.slice
        obtain ⟨m3, n3, rfl⟩ := hI.dues.slice
        clear hI
        have BW5 := hid (BW4.out.trans (hb5.mono BW4.out.size))
        have BS5 := hid (BS4.out.trans (hb5.mono BS4.out.size))
        have PX5 : Hid (q5.heap[q1.heap.size]? = some (.cells #[.int .i64 0, .int .i64 0, .int .i64 0, .slice none 0 0, .slice none 0 0, .slice none 0 0] 28)) := hid (blk_below PX4.out hb5)
        have hKK5 : q5.heap[w.heap.size]? = some (.cells #[.int .i64 r.status, .int .i64 r.now, .slice a1 r.vars.length c1, .slice a2 r.marks.length c2, .slice a3 r.dues.length c3] 40) := blk_below HKB.out BS5.out
        clear hb5
        go_wp2_with fail
        refine hK.out _ _ hKK5 (fun hHeld => ?_)
        clear hK K
        try simp only [Act.put, List.setIfInBounds_toArray, List.set_cons_zero, List.set_cons_succ]
        have t0 := Ch.blk_free PX5.out 0
        have t1 := Ch.blk_free PX5.out 1
        have t2 := Ch.blk_free PX5.out 2
        have t3 := Ch.blk_free PX5.out 3
        have t4 := Ch.blk_free PX5.out 4
        have t5 := Ch.blk_free PX5.out 5
        have z0 : q5.cell? ⟨q1.heap.size, 0, none⟩ = some (.int .i64 0) := Ch.blk_cell PX5.out 0
        have z1 : q5.cell? ⟨q1.heap.size, 1, none⟩ = some (.int .i64 0) := Ch.blk_cell PX5.out 1
        have z2 : q5.cell? ⟨q1.heap.size, 2, none⟩ = some (.int .i64 0) := Ch.blk_cell PX5.out 2
        have z3 : q5.cell? ⟨q1.heap.size, 3, none⟩ = some (.slice none 0 0) := Ch.blk_cell PX5.out 3
        have z4 : q5.cell? ⟨q1.heap.size, 4, none⟩ = some (.slice none 0 0) := Ch.blk_cell PX5.out 4
        have z5 : q5.cell? ⟨q1.heap.size, 5, none⟩ = some (.slice none 0 0) := Ch.blk_cell PX5.out 5
        have hpl : q1.heap.size < q4.heap.size := Ch.blk_lt PX4.out
        have HRS := hid (res_a (cc := cc) BS5.out LP2.out PX5.out II5.out hpl)
        have hKS : ((((((q5.setCell ⟨q1.heap.size, 0, none⟩ (.int .i64 cc)).setCell ⟨q1.heap.size, 1, none⟩ (.int .i64 rr.status)).setCell ⟨q1.heap.size, 2, none⟩ (.int .i64 rr.now)).setCell ⟨q1.heap.size, 3, none⟩ (.slice m1 rr.vars.length n1)).setCell ⟨q1.heap.size, 4, none⟩ (.slice m2 rr.marks.length n2)).setCell ⟨q1.heap.size, 5, none⟩ (.slice m3 rr.dues.length n3)).heap[w.heap.size]? = some (.cells #[.int .i64 r.status, .int .i64 r.now, .slice a1 r.vars.length c1, .slice a2 r.marks.length c2, .slice a3 r.dues.length c3] 40) := blk_below HKB.out HRS.out.bel
        refine wpAnyH_ready (rs := [9]) (by kernel_rfl) (by simp) ?_
        refine AllReadyH.cons rfl (fun K hK => ?_) AllReadyH.nil
        go_simp
        refine hK.out _ _ hKS (fun hHeld => ?_)
        clear hK K
        try simp only [Act.put, List.setIfInBounds_toArray, List.set_cons_zero, List.set_cons_succ]
        refine wpAnyH_done (by kernel_rfl) ?_ _
        go_wp2_with fail
        go_meet
        exact ⟨_, _, _, _, _, _, _, rfl, HRS⟩
    · go_simp
      obtain ⟨q1, eq1⟩ : ∃ q1, q1 = (w2.alloc (.cells #[.int .i64 0, .int .i64 0, .int .i64 0, .slice none 0 0, .slice none 0 0, .slice none 0 0] 28)).drew := ⟨_, rfl⟩
      have hb1 : Below w2.drew.heap.size w2.drew q1 := by rw [eq1]; exact new_below w2.drew _
      have PA1 : Hid (q1.heap[w2.heap.size]? = some (.cells #[.int .i64 0, .int .i64 0, .int .i64 0, .slice none 0 0, .slice none 0 0, .slice none 0 0] 28)) := hid (by rw [eq1]; exact Ch.new_blk _ _)
      rw [← eq1]
      clear eq1
      have LP1 : Hid (w2.heap.size ≤ w2.heap.size) := hid HBs.out.size
      have BW1 := hid (HB2d.out.trans (hb1.mono HB2d.out.size))
      have BS1 := hid (HBs.out.trans (hb1.mono HBs.out.size))
      have hKK1 : q1.heap[w.heap.size]? = some (.cells #[.int .i64 r.status, .int .i64 r.now, .slice a1 r.vars.length c1, .slice a2 r.marks.length c2, .slice a3 r.dues.length c3] 40) := blk_below HKB.out BS1.out
      clear hb1
      refine hK.out _ _ hKK1 (fun hHeld => ?_)
      clear hK K
      try simp only [Act.put, List.setIfInBounds_toArray, List.set_cons_zero, List.set_cons_succ]
      refine wpAnyH_ready (rs := [1]) (by kernel_rfl) (by simp) ?_
      refine (AllReadyH.cons rfl (fun K hK => ?_) AllReadyH.nil)
      go_simp
      go_at_call 9
      refine (HT1.out _ BW1.out).mono ?_
      rintro e q2 ⟨u1, rfl, hu1, hb2⟩
      obtain ⟨x0, y0, rfl⟩ := hu1.slice
      have U2 := hid hu1
      clear hu1
      have BW2 := hid (BW1.out.trans (hb2.mono BW1.out.size))
      have BS2 := hid (BS1.out.trans (hb2.mono BS1.out.size))
      have PX2 : Hid (q2.heap[w2.heap.size]? = some (.cells #[.int .i64 0, .int .i64 0, .int .i64 0, .slice none 0 0, .slice none 0 0, .slice none 0 0] 28)) := hid (blk_below PA1.out hb2)
      have hKK2 : q2.heap[w.heap.size]? = some (.cells #[.int .i64 r.status, .int .i64 r.now, .slice a1 r.vars.length c1, .slice a2 r.marks.length c2, .slice a3 r.dues.length c3] 40) := blk_below HKB.out BS2.out
      clear hb2
      go_wp2_with fail
      refine hK.out _ _ hKK2 (fun hHeld => ?_)
      clear hK K
      try simp only [Act.put, List.setIfInBounds_toArray, List.set_cons_zero, List.set_cons_succ]
      refine wpAnyH_ready (rs := [3]) (by kernel_rfl) (by simp) ?_
      refine (AllReadyH.cons rfl (fun K hK => ?_) AllReadyH.nil)
      go_simp
      go_at_call 21
      refine (HC1.out _ BW2.out).mono ?_
      rintro e q3 ⟨p1, p2, p3, rfl, hu2, hb3⟩
      obtain ⟨x1, y1, rfl⟩ := hu2.vars.slice
      obtain ⟨x2, y2, rfl⟩ := hu2.marks.slice
      obtain ⟨x3, y3, rfl⟩ := hu2.dues.slice
      have KK3 := hid (hu2.mono (Nat.zero_le _))
      clear hu2
      have BW3 := hid (BW2.out.trans (hb3.mono BW2.out.size))
      have BS3 := hid (BS2.out.trans (hb3.mono BS2.out.size))
      have Ux3 := hid (U2.out.below hb3)
      have PX3 : Hid (q3.heap[w2.heap.size]? = some (.cells #[.int .i64 0, .int .i64 0, .int .i64 0, .slice none 0 0, .slice none 0 0, .slice none 0 0] 28)) := hid (blk_below PX2.out hb3)
      have hKK3 : q3.heap[w.heap.size]? = some (.cells #[.int .i64 r.status, .int .i64 r.now, .slice a1 r.vars.length c1, .slice a2 r.marks.length c2, .slice a3 r.dues.length c3] 40) := blk_below HKB.out BS3.out
      clear hb3
      go_wp2_with fail
      refine hK.out _ _ hKK3 (fun hHeld => ?_)
      clear hK K
      try simp only [Act.put, List.setIfInBounds_toArray, List.set_cons_zero, List.set_cons_succ]
      refine wpAnyH_ready (rs := [6]) (by kernel_rfl) (by simp) ?_
      refine (AllReadyH.cons rfl (fun K hK => ?_) AllReadyH.nil)
      go_simp
      go_at_call 10
      refine (HV1.out _ BW3.out).mono ?_
      rintro e q4 ⟨u2, rfl, hu3, hb4⟩
      obtain ⟨x9, y9, rfl⟩ := hu3.slice
      have VV4 := hid (hu3.mono (Nat.zero_le _))
      clear hu3
      have BW4 := hid (BW3.out.trans (hb4.mono BW3.out.size))
      have BS4 := hid (BS3.out.trans (hb4.mono BS3.out.size))
      have Ux4 := hid (Ux3.out.below hb4)
      have KKx4 := hid (KK3.out.below hb4)
      have PX4 : Hid (q4.heap[w2.heap.size]? = some (.cells #[.int .i64 0, .int .i64 0, .int .i64 0, .slice none 0 0, .slice none 0 0, .slice none 0 0] 28)) := hid (blk_below PX3.out hb4)
      have hKK4 : q4.heap[w.heap.size]? = some (.cells #[.int .i64 r.status, .int .i64 r.now, .slice a1 r.vars.length c1, .slice a2 r.marks.length c2, .slice a3 r.dues.length c3] 40) := blk_below HKB.out BS4.out
      clear hb4
      go_wp2_with fail
      refine hK.out _ _ hKK4 (fun hHeld => ?_)
      clear hK K
      try simp only [Act.put, List.setIfInBounds_toArray, List.set_cons_zero, List.set_cons_succ]
      refine wpAnyH_ready (rs := [7]) (by kernel_rfl) (by simp) ?_
      refine (AllReadyH.cons rfl (fun K hK => ?_) AllReadyH.nil)
      go_simp
      go_at_call 20
      refine (HSK.out _ _ _ _ _ _ _ Ux4.out KKx4.out VV4.out).mono ?_
      rintro e q5 ⟨s1, s2, s3, rfl, hI, hb5⟩
      have II5 := hid hI
      obtain ⟨m1, n1, rfl⟩ := hI.vars.slice
      obtain ⟨m2, n2, rfl⟩ := hI.marks.slice
      obtain ⟨m3, n3, rfl⟩ := hI.dues.slice
      clear hI
      have BW5 := hid (BW4.out.trans (hb5.mono BW4.out.size))
      have BS5 := hid (BS4.out.trans (hb5.mono BS4.out.size))
      have PX5 : Hid (q5.heap[w2.heap.size]? = some (.cells #[.int .i64 0, .int .i64 0, .int .i64 0, .slice none 0 0, .slice none 0 0, .slice none 0 0] 28)) := hid (blk_below PX4.out hb5)
      have hKK5 : q5.heap[w.heap.size]? = some (.cells #[.int .i64 r.status, .int .i64 r.now, .slice a1 r.vars.length c1, .slice a2 r.marks.length c2, .slice a3 r.dues.length c3] 40) := blk_below HKB.out BS5.out
      clear hb5
      go_wp2_with fail
      refine hK.out _ _ hKK5 (fun hHeld => ?_)
      clear hK K
      try simp only [Act.put, List.setIfInBounds_toArray, List.set_cons_zero, List.set_cons_succ]
      have t0 := Ch.blk_free PX5.out 0
      have t1 := Ch.blk_free PX5.out 1
      have t2 := Ch.blk_free PX5.out 2
      have t3 := Ch.blk_free PX5.out 3
      have t4 := Ch.blk_free PX5.out 4
      have t5 := Ch.blk_free PX5.out 5
      have z0 : q5.cell? ⟨w2.heap.size, 0, none⟩ = some (.int .i64 0) := Ch.blk_cell PX5.out 0
      have z1 : q5.cell? ⟨w2.heap.size, 1, none⟩ = some (.int .i64 0) := Ch.blk_cell PX5.out 1
      have z2 : q5.cell? ⟨w2.heap.size, 2, none⟩ = some (.int .i64 0) := Ch.blk_cell PX5.out 2
      have z3 : q5.cell? ⟨w2.heap.size, 3, none⟩ = some (.slice none 0 0) := Ch.blk_cell PX5.out 3
      have z4 : q5.cell? ⟨w2.heap.size, 4, none⟩ = some (.slice none 0 0) := Ch.blk_cell PX5.out 4
      have z5 : q5.cell? ⟨w2.heap.size, 5, none⟩ = some (.slice none 0 0) := Ch.blk_cell PX5.out 5
      have hpl : w2.heap.size < q4.heap.size := Ch.blk_lt PX4.out
      have HRS := hid (res_a (cc := cc) BS5.out LP1.out PX5.out II5.out hpl)
      have hKS : ((((((q5.setCell ⟨w2.heap.size, 0, none⟩ (.int .i64 cc)).setCell ⟨w2.heap.size, 1, none⟩ (.int .i64 rr.status)).setCell ⟨w2.heap.size, 2, none⟩ (.int .i64 rr.now)).setCell ⟨w2.heap.size, 3, none⟩ (.slice m1 rr.vars.length n1)).setCell ⟨w2.heap.size, 4, none⟩ (.slice m2 rr.marks.length n2)).setCell ⟨w2.heap.size, 5, none⟩ (.slice m3 rr.dues.length n3)).heap[w.heap.size]? = some (.cells #[.int .i64 r.status, .int .i64 r.now, .slice a1 r.vars.length c1, .slice a2 r.marks.length c2, .slice a3 r.dues.length c3] 40) := blk_below HKB.out HRS.out.bel
      refine wpAnyH_ready (rs := [9]) (by kernel_rfl) (by simp) ?_
      refine AllReadyH.cons rfl (fun K hK => ?_) AllReadyH.nil
      go_simp
      refine hK.out _ _ hKS (fun hHeld => ?_)
      clear hK K
      try simp only [Act.put, List.setIfInBounds_toArray, List.set_cons_zero, List.set_cons_succ]
      refine wpAnyH_done (by kernel_rfl) ?_ _
      go_wp2_with fail
      go_meet
      exact ⟨_, _, _, _, _, _, _, rfl, HRS⟩
  case rest =>
    obtain ⟨p, m1, n1, m2, n2, m3, n3, rfl, HRS⟩ := hcut
    have B3 := HB2.out.trans (HRS.out.bel.mono HB2.out.size)
    have PP := hid HRS.out.blk
    have I0 := hid HRS.out.lst
    have HKc : Hid (wc.heap[w.heap.size]? = some (.cells #[.int .i64 r.status, .int .i64 r.now, .slice a1 r.vars.length c1, .slice a2 r.marks.length c2, .slice a3 r.dues.length c3] 40)) := hid (blk_below HKB.out HRS.out.bel)
    have hpl := Ch.blk_lt PP.out
    clear HRS HB2 HSK HKB HK2d HB2d HK2
    go_wp2_with fail
    refine (HT2.out _ B3).mono ?_
    rintro e w5 ⟨u5, rfl, hu5, hw5, hb5⟩
    obtain ⟨x0, y0, rfl⟩ := hu5.slice
    have B5 := B3.trans (hb5.mono B3.size)
    have C5 := hid hb5
    have U5 := hid (hu5.mono (Nat.zero_le _))
    have W5 := hid hw5
    have l5 := hb5.size
    clear hu5 hw5 hb5
    have HK5 := blk_below HKc.out C5.out
    have d0 := Ch.blk_cell HK5 0
    have d1 := Ch.blk_cell HK5 1
    have d2 := Ch.blk_cell HK5 2
    have d3 := Ch.blk_cell HK5 3
    have d4 := Ch.blk_cell HK5 4
    clear HK5
    go_wp2_with fail
    refine (HC2.out _ B5).mono ?_
    rintro e w6 ⟨p1, p2, p3, rfl, hu6, hb6⟩
    obtain ⟨x1, y1, rfl⟩ := hu6.vars.slice
    obtain ⟨x2, y2, rfl⟩ := hu6.marks.slice
    obtain ⟨x3, y3, rfl⟩ := hu6.dues.slice
    obtain ⟨w7, e7⟩ : ∃ w7, w7 = w6.alloc (.cells #[.int .i64 r.status, .int .i64 r.now, .slice x1 r.vars.length y1, .slice x2 r.marks.length y2, .slice x3 r.dues.length y3] 26) := ⟨_, rfl⟩
    have hx7 : Below w6.heap.size w6 w7 := by rw [e7]; exact new_below w6 _
    have hb7 : Below w5.heap.size w5 w7 := hb6.trans (hx7.mono hb6.size)
    obtain ⟨X, eX⟩ : ∃ X, X = w6.heap.size := ⟨_, rfl⟩
    have X7 : Hid (w7.heap[X]? = some (.cells #[.int .i64 r.status, .int .i64 r.now, .slice x1 r.vars.length y1, .slice x2 r.marks.length y2, .slice x3 r.dues.length y3] 26)) := hid (by rw [e7, eX]; exact Ch.new_blk _ _)
    have l6 := hb6.size
    have n7 : w6.heap.size < w7.heap.size := by rw [e7]; simp
    have LX := hid eX
    have B7 := B5.trans (hb7.mono B5.size)
    have C7 := hid (C5.out.trans (hb7.mono C5.out.size))
    have U7 := hid (U5.out.below hb7)
    have K7 := hid ((hu6.at'.mono (Nat.zero_le _)).below hx7)
    have W7 := hid (W5.out.below hb7)
    have R7 := hid (hu6.rows.below hx7)
    have E7 := hid e7
    clear hu6 hb6 hx7 hb7 U5 W5 C5 d0 d1 d2 d3 d4 eX e7
    go_wp2_with fail
    rw [← E7.out, ← LX.out]
    clear E7
    refine (HV2.out _ B7).mono ?_
    rintro e w8 ⟨u8, rfl, hu8, hv8, hb8⟩
    obtain ⟨xv, yv, rfl⟩ := hu8.slice
    have l8 := hb8.size
    have B8 := B7.trans (hb8.mono B7.size)
    have C8 := hid (C7.out.trans (hb8.mono C7.out.size))
    have U8 := hid (U7.out.below hb8)
    have W8 := hid (W7.out.below hb8)
    have V8 := hid (hu8.mono (Nat.zero_le _))
    have N8 := hid (own_c hv8)
    have K8 := hid (K7.out.below hb8)
    have R8 := hid (R7.out.below hb8)
    have X8 : Hid (w8.heap[X]? = some (.cells #[.int .i64 r.status, .int .i64 r.now, .slice x1 r.vars.length y1, .slice x2 r.marks.length y2, .slice x3 r.dues.length y3] 26)) := hid (blk_below X7.out hb8)
    have lx := Ch.blk_lt X7.out
    clear hu8 hv8 hb8 U7 W7 C7 K7 R7 X7
    have HIM := hid (HIK.out _ _ _ _ _ w8 B8 U8.out K8.out V8.out)
    have d0 := Ch.blk_cell X8.out 0
    have d1 := Ch.blk_cell X8.out 1
    have d2 := Ch.blk_cell X8.out 2
    have d3 := Ch.blk_cell X8.out 3
    have d4 := Ch.blk_cell X8.out 4
    have dl := Ch.blk_lt X8.out
    go_wp2_with fail
    refine HIM.out.mono ?_
    rintro e w9 ⟨g1, g2, g3, rfl, hO9, hb9⟩
    clear d0 d1 d2 d3 d4 dl
    obtain ⟨h1, i1, rfl⟩ := Ints.owns_slice hO9.vars
    obtain ⟨h2, i2, rfl⟩ := Ints.owns_slice hO9.marks
    obtain ⟨h3, i3, rfl⟩ := Ints.owns_slice hO9.dues
    obtain ⟨wa, ea⟩ : ∃ wa, wa = w9.alloc (.cells #[.int .i64 cc, .int .i64 rr.status, .int .i64 rr.now, .slice h1 rr.vars.length i1, .slice h2 rr.marks.length i2, .slice h3 rr.dues.length i3] 28) := ⟨_, rfl⟩
    have hxa : Below w9.heap.size w9 wa := by rw [ea]; exact new_below w9 _
    have hba : Below w8.heap.size w8 wa := hb9.trans (hxa.mono hb9.size)
    obtain ⟨G, eG⟩ : ∃ G, G = w9.heap.size := ⟨_, rfl⟩
    have Ga : Hid (wa.heap[G]? = some (.cells #[.int .i64 cc, .int .i64 rr.status, .int .i64 rr.now, .slice h1 rr.vars.length i1, .slice h2 rr.marks.length i2, .slice h3 rr.dues.length i3] 28)) := hid (by rw [ea, eG]; exact Ch.new_blk _ _)
    have na : w9.heap.size < wa.heap.size := by rw [ea]; simp
    have l9 := hb9.size
    have LG := hid eG
    have HIN : Hid (∀ b, (Value.slice h1 rr.vars.length i1).ownBlock = some b ∨ (Value.slice h2 rr.marks.length i2).ownBlock = some b ∨ (Value.slice h3 rr.dues.length i3).ownBlock = some b → b < G) := hid (fun b e => by rw [eG]; rcases e with e | e | e; exact (Cr.own_in hO9.vars e).2; exact (Cr.own_in hO9.marks e).2; exact (Cr.own_in hO9.dues e).2)
    have Oa := hid (hO9.below hxa)
    have Ba := B8.trans (hba.mono B8.size)
    have Ca := hid (C8.out.trans (hba.mono C8.out.size))
    have Ua := hid (U8.out.below hba)
    have Wa := hid (W8.out.below hba)
    have Ka := hid (K8.out.below hba)
    have Ra := hid (R8.out.below hba)
    have Xa : Hid (wa.heap[X]? = some (.cells #[.int .i64 r.status, .int .i64 r.now, .slice x1 r.vars.length y1, .slice x2 r.marks.length y2, .slice x3 r.dues.length y3] 26)) := hid (blk_below X8.out hba)
    have Va := hid (V8.out.below hba)
    have Na := hid (N8.out.below hba)
    have P9 := blk_below PP.out (C8.out.trans (hb9.mono C8.out.size))
    have pp0 := Ch.blk_cell P9 0
    have pp1 := Ch.blk_cell P9 1
    have pp2 := Ch.blk_cell P9 2
    have pp3 := Ch.blk_cell P9 3
    have pp4 := Ch.blk_cell P9 4
    have pp5 := Ch.blk_cell P9 5
    have ppl := Ch.blk_lt P9
    have EA := hid ea
    clear P9 hO9 hb9 hxa hba U8 W8 C8 HIM eG ea K8 R8 X8 V8 N8
    go_wp2_with fail
    rw [← EA.out, ← LG.out]
    clear EA
    refine (Cr.eqR _ _ cc rr _ _ _ _ _ _ wa SR.out Oa.out.at' (I0.out.below Ca.out)).mono ?_
    rintro e wb ⟨rfl, hbb⟩
    clear pp0 pp1 pp2 pp3 pp4 pp5 ppl
    have Gb : Hid (wb.heap[G]? = some (.cells #[.int .i64 cc, .int .i64 rr.status, .int .i64 rr.now, .slice h1 rr.vars.length i1, .slice h2 rr.marks.length i2, .slice h3 rr.dues.length i3] 28)) := hid (blk_below Ga.out hbb)
    have Ob := hid (Oa.out.below hbb)
    have Ub := hid (Ua.out.below hbb)
    have Wb := hid (Wa.out.below hbb)
    have Kb := hid (Ka.out.below hbb)
    have Rb := hid (Ra.out.below hbb)
    have Xb : Hid (wb.heap[X]? = some (.cells #[.int .i64 r.status, .int .i64 r.now, .slice x1 r.vars.length y1, .slice x2 r.marks.length y2, .slice x3 r.dues.length y3] 26)) := hid (blk_below Xa.out hbb)
    have Vb := hid (Va.out.below hbb)
    have Nb := hid (Na.out.below hbb)
    have Bb := Ba.trans (hbb.mono Ba.size)
    have Cb := hid (Ca.out.trans (hbb.mono Ca.out.size))
    have sb := hbb.size
    clear Ga Oa Ua Wa Ka Ra Xa Va Na Ca
    clear hbb
    go_wp2_with fail
    refine (HT1.out _ Bb).mono ?_
    rintro e wd ⟨u3, rfl, hu4, hbd⟩
    obtain ⟨x7, y7, rfl⟩ := hu4.slice
    have HEQ := hid (eqS _ _ l _ _ wd S1.out (Ub.out.below hbd) hu4)
    have Gd : Hid (wd.heap[G]? = some (.cells #[.int .i64 cc, .int .i64 rr.status, .int .i64 rr.now, .slice h1 rr.vars.length i1, .slice h2 rr.marks.length i2, .slice h3 rr.dues.length i3] 28)) := hid (blk_below Gb.out hbd)
    have Od := hid (Ob.out.below hbd)
    have Ud := hid (Ub.out.below hbd)
    have Wd := hid (Wb.out.below hbd)
    have Kd := hid (Kb.out.below hbd)
    have Rd := hid (Rb.out.below hbd)
    have Xd : Hid (wd.heap[X]? = some (.cells #[.int .i64 r.status, .int .i64 r.now, .slice x1 r.vars.length y1, .slice x2 r.marks.length y2, .slice x3 r.dues.length y3] 26)) := hid (blk_below Xb.out hbd)
    have Vd := hid (Vb.out.below hbd)
    have Nd := hid (Nb.out.below hbd)
    have Bd := Bb.trans (hbd.mono Bb.size)
    have Cd := hid (Cb.out.trans (hbd.mono Cb.out.size))
    have sd := hbd.size
    clear Gb Ob Ub Wb Kb Rb Xb Vb Nb Cb
    clear hu4 hbd
    go_wp2_with fail
    refine HEQ.out.mono ?_
    rintro e we ⟨rfl, hbe⟩
    have Ge : Hid (we.heap[G]? = some (.cells #[.int .i64 cc, .int .i64 rr.status, .int .i64 rr.now, .slice h1 rr.vars.length i1, .slice h2 rr.marks.length i2, .slice h3 rr.dues.length i3] 28)) := hid (blk_below Gd.out hbe)
    have Oe := hid (Od.out.below hbe)
    have Ue := hid (Ud.out.below hbe)
    have We := hid (Wd.out.below hbe)
    have Ke := hid (Kd.out.below hbe)
    have Re := hid (Rd.out.below hbe)
    have Xe : Hid (we.heap[X]? = some (.cells #[.int .i64 r.status, .int .i64 r.now, .slice x1 r.vars.length y1, .slice x2 r.marks.length y2, .slice x3 r.dues.length y3] 26)) := hid (blk_below Xd.out hbe)
    have Ve := hid (Vd.out.below hbe)
    have Ne := hid (Nd.out.below hbe)
    have Be := Bd.trans (hbe.mono Bd.size)
    have Ce := hid (Cd.out.trans (hbe.mono Cd.out.size))
    have se := hbe.size
    clear Gd Od Ud Wd Kd Rd Xd Vd Nd Cd
    clear hbe HEQ
    have hBd := Be.drew
    have HDd : Hid (we.drew.heap[w.heap.size]? = some (.cells #[.int .i64 r.status, .int .i64 r.now, .slice a1 r.vars.length c1, .slice a2 r.marks.length c2, .slice a3 r.dues.length c3] 40) ∧ we.drew.heap[X]? = some (.cells #[.int .i64 r.status, .int .i64 r.now, .slice x1 r.vars.length y1, .slice x2 r.marks.length y2, .slice x3 r.dues.length y3] 26)) := hid ⟨blk_below HKc.out Ce.out.drew, Xe.out⟩
    have hdd : Below we.heap.size we we.drew := (Below.refl _ we).drew
    have Kdd := hid (Ke.out.below hdd)
    go_wp2
    refine wp_region_held_drew (S := fun wx => wx.heap[w.heap.size]? = some (.cells #[.int .i64 r.status, .int .i64 r.now, .slice a1 r.vars.length c1, .slice a2 r.marks.length c2, .slice a3 r.dues.length c3] 40) ∧ wx.heap[X]? = some (.cells #[.int .i64 r.status, .int .i64 r.now, .slice x1 r.vars.length y1, .slice x2 r.marks.length y2, .slice x3 r.dues.length y3] 26)) (by kernel_rfl) HDd.out (fun hHeld => ?_)
    refine wpAnyH_take (i := 0) (v := .agg #[.int .i64 r.status, .int .i64 r.now, .slice x1 r.vars.length y1, .slice x2 r.marks.length y2, .slice x3 r.dues.length y3]) rfl (by kernel_rfl) (by kernel_rfl) (by kernel_rfl) (fun _ _ _ h => h) (Or.inl ⟨by kernel_rfl, by intro w hSw; (try dsimp only at hSw); have m0 := Ch.blk_cell hSw.2 0; have m1 := Ch.blk_cell hSw.2 1; have m2 := Ch.blk_cell hSw.2 2; have m3 := Ch.blk_cell hSw.2 3; have m4 := Ch.blk_cell hSw.2 4; clear hSw; go_simp⟩) (by assumption) ?_
    simp only [Act.put, List.setIfInBounds_toArray, List.set_cons_zero, List.set_cons_succ]
    refine wpAnyH_take (i := 1) (v := .agg #[.int .i64 r.status, .int .i64 r.now, .slice a1 r.vars.length c1, .slice a2 r.marks.length c2, .slice a3 r.dues.length c3]) rfl (by kernel_rfl) (by kernel_rfl) (by kernel_rfl) (fun _ _ _ h => h) (Or.inl ⟨by kernel_rfl, by intro w hSw; (try dsimp only at hSw); have m0 := Ch.blk_cell hSw.1 0; have m1 := Ch.blk_cell hSw.1 1; have m2 := Ch.blk_cell hSw.1 2; have m3 := Ch.blk_cell hSw.1 3; have m4 := Ch.blk_cell hSw.1 4; clear hSw; go_simp⟩) (by assumption) ?_
    simp only [Act.put, List.setIfInBounds_toArray, List.set_cons_zero, List.set_cons_succ]
    refine wpAnyH_ready (rs := [2]) (by kernel_rfl) (by simp) ?_
    refine AllReadyH.cons rfl (fun K hK => ?_) AllReadyH.nil
    go_simp
    go_at_call 21
    refine (HC1.out _ hBd).mono ?_
    rintro e wf ⟨p1, p2, p3, rfl, hu5, hbf⟩
    obtain ⟨z1, t1, rfl⟩ := hu5.vars.slice
    obtain ⟨z2, t2, rfl⟩ := hu5.marks.slice
    obtain ⟨z3, t3, rfl⟩ := hu5.dues.slice
    have HEC := hid (Ch.eq _ _ r _ _ _ _ _ _ wf S2.out (Kdd.out.below hbf) hu5)
    have hdf := hdd.trans (hbf.mono hdd.size)
    have HDf : Hid (wf.heap[w.heap.size]? = some (.cells #[.int .i64 r.status, .int .i64 r.now, .slice a1 r.vars.length c1, .slice a2 r.marks.length c2, .slice a3 r.dues.length c3] 40) ∧ wf.heap[X]? = some (.cells #[.int .i64 r.status, .int .i64 r.now, .slice x1 r.vars.length y1, .slice x2 r.marks.length y2, .slice x3 r.dues.length y3] 26)) := hid ⟨blk_below HDd.out.1 hbf, blk_below HDd.out.2 hbf⟩
    clear hu5 hbf
    go_wp2_with fail
    refine hK.out _ _ HDf.out (fun hHeld => ?_)
    clear hK K
    try simp only [Act.put, List.setIfInBounds_toArray, List.set_cons_zero, List.set_cons_succ]
    refine wpAnyH_ready (rs := [3]) (by kernel_rfl) (by simp) ?_
    refine AllReadyH.cons rfl (fun K hK => ?_) AllReadyH.nil
    go_simp
    go_at_call 23
    refine HEC.out.mono ?_
    rintro e wg ⟨rfl, hbg⟩
    have hdg := hdf.trans (hbg.mono hdf.size)
    have HDg : Hid (wg.heap[w.heap.size]? = some (.cells #[.int .i64 r.status, .int .i64 r.now, .slice a1 r.vars.length c1, .slice a2 r.marks.length c2, .slice a3 r.dues.length c3] 40) ∧ wg.heap[X]? = some (.cells #[.int .i64 r.status, .int .i64 r.now, .slice x1 r.vars.length y1, .slice x2 r.marks.length y2, .slice x3 r.dues.length y3] 26)) := hid ⟨blk_below HDf.out.1 hbg, blk_below HDf.out.2 hbg⟩
    clear hbg
    go_wp2_with fail
    refine hK.out _ _ HDg.out (fun hHeld => ?_)
    clear hK K
    try simp only [Act.put, List.setIfInBounds_toArray, List.set_cons_zero, List.set_cons_succ]
    refine wpAnyH_take (i := 4) (v := .bool false) rfl (by kernel_rfl) (by kernel_rfl) (by kernel_rfl) (fun _ _ _ h => h) (Or.inl ⟨by kernel_rfl, by intro w hSw; (try dsimp only at hSw); go_simp⟩) (by assumption) ?_
    simp only [Act.put, List.setIfInBounds_toArray, List.set_cons_zero, List.set_cons_succ]
    refine wpAnyH_done (by kernel_rfl) ?_ _
    clear hHeld HDd HDf HDg HEC Kdd hBd hdf hdd
    have Gg : Hid (wg.heap[G]? = some (.cells #[.int .i64 cc, .int .i64 rr.status, .int .i64 rr.now, .slice h1 rr.vars.length i1, .slice h2 rr.marks.length i2, .slice h3 rr.dues.length i3] 28)) := hid (blk_below Ge.out hdg)
    have Og := hid (Oe.out.below hdg)
    have Wg := hid (We.out.below hdg)
    have Rg := hid (Re.out.below hdg)
    have Xg : Hid (wg.heap[X]? = some (.cells #[.int .i64 r.status, .int .i64 r.now, .slice x1 r.vars.length y1, .slice x2 r.marks.length y2, .slice x3 r.dues.length y3] 26)) := hid (blk_below Xe.out hdg)
    have Vg := hid (Ve.out.below hdg)
    have Ng := hid (Ne.out.below hdg)
    have Bg := Be.trans (hdg.mono Be.size)
    have Cg := hid (Ce.out.trans (hdg.mono Ce.out.size))
    have sg := hdg.size
    clear Ge Oe We Re Xe Ve Ne Ce
    clear hdg Ue Ke
    go_wp2_with fail
    refine (HV1.out _ Bg).mono ?_
    rintro e wh ⟨u3, rfl, hu4, hbh⟩
    obtain ⟨x8, y8, rfl⟩ := hu4.slice
    have HEQ := hid (Nu.eqS _ _ vs _ _ wh hvl (Vg.out.below hbh) hu4)
    have Gh : Hid (wh.heap[G]? = some (.cells #[.int .i64 cc, .int .i64 rr.status, .int .i64 rr.now, .slice h1 rr.vars.length i1, .slice h2 rr.marks.length i2, .slice h3 rr.dues.length i3] 28)) := hid (blk_below Gg.out hbh)
    have Oh := hid (Og.out.below hbh)
    have Wh := hid (Wg.out.below hbh)
    have Rh := hid (Rg.out.below hbh)
    have Xh : Hid (wh.heap[X]? = some (.cells #[.int .i64 r.status, .int .i64 r.now, .slice x1 r.vars.length y1, .slice x2 r.marks.length y2, .slice x3 r.dues.length y3] 26)) := hid (blk_below Xg.out hbh)
    have Vh := hid (Vg.out.below hbh)
    have Nh := hid (Ng.out.below hbh)
    have Bh := Bg.trans (hbh.mono Bg.size)
    have Ch := hid (Cg.out.trans (hbh.mono Cg.out.size))
    have sh := hbh.size
    clear Gg Og Wg Rg Xg Vg Ng Cg
    clear hu4 hbh
    go_wp2_with fail
    refine HEQ.out.mono ?_
    rintro e wi ⟨rfl, hbi⟩
    have Gi : Hid (wi.heap[G]? = some (.cells #[.int .i64 cc, .int .i64 rr.status, .int .i64 rr.now, .slice h1 rr.vars.length i1, .slice h2 rr.marks.length i2, .slice h3 rr.dues.length i3] 28)) := hid (blk_below Gh.out hbi)
    have Oi := hid (Oh.out.below hbi)
    have Wi := hid (Wh.out.below hbi)
    have Ri := hid (Rh.out.below hbi)
    have Xi : Hid (wi.heap[X]? = some (.cells #[.int .i64 r.status, .int .i64 r.now, .slice x1 r.vars.length y1, .slice x2 r.marks.length y2, .slice x3 r.dues.length y3] 26)) := hid (blk_below Xh.out hbi)
    have Ni := hid (Nh.out.below hbi)
    have Bi := Bh.trans (hbi.mono Bh.size)
    have Ci := hid (Ch.out.trans (hbi.mono Ch.out.size))
    have si := hbi.size
    clear Gh Oh Wh Rh Xh Nh Ch
    clear hbi HEQ Vh
    go_wp2_with fail
    refine (markSteps _ _ _ l.length (lenC l) (lenE l) _ (by omega) (lensC S1.out) (lensE S1.out) Wi.out).mono ?_
    rintro e wj ⟨⟨rj, rfl, hrj⟩, ham⟩
    have Gj : Hid (wj.heap[G]? = some (.cells #[.int .i64 cc, .int .i64 rr.status, .int .i64 rr.now, .slice h1 rr.vars.length i1, .slice h2 rr.marks.length i2, .slice h3 rr.dues.length i3] 28)) := hid (blk_amid Gi.out ham (.inr (by have := LG.out; omega)))
    have Oj := hid (own_amid Oi.out ham (by omega))
    have Rj := hid (Ri.out.amid ham (by omega))
    have Xj : Hid (wj.heap[X]? = some (.cells #[.int .i64 r.status, .int .i64 r.now, .slice x1 r.vars.length y1, .slice x2 r.marks.length y2, .slice x3 r.dues.length y3] 26)) := hid (blk_amid Xi.out ham (.inr (by have := LX.out; omega)))
    have Nj := hid (Ni.out.amid ham (by omega))
    have Bj := below_amid Bi (Nat.le_refl _) ham (by have := B3.size; omega)
    have Cj := hid (below_amid Ci.out (Nat.le_refl _) ham (by omega))
    have sj := ham.size
    clear Gi Oi Ri Xi Ni Ci
    clear ham Wi
    have d0 := Ch.blk_cell Xj.out 0
    have d1 := Ch.blk_cell Xj.out 1
    have d2 := Ch.blk_cell Xj.out 2
    have d3 := Ch.blk_cell Xj.out 3
    have d4 := Ch.blk_cell Xj.out 4
    have dl := Ch.blk_lt Xj.out
    have HMC := hid (Ch.markC _ _ r _ _ _ rj wj S2.out (by omega) (by omega) (by omega) Rj.out)
    go_wp2_with fail
    refine HMC.out.mono ?_
    rintro e wk ⟨⟨rk, rfl, hrk⟩, ham⟩
    clear d0 d1 d2 d3 d4 dl HMC
    have Gk : Hid (wk.heap[G]? = some (.cells #[.int .i64 cc, .int .i64 rr.status, .int .i64 rr.now, .slice h1 rr.vars.length i1, .slice h2 rr.marks.length i2, .slice h3 rr.dues.length i3] 28)) := hid (blk_amid Gj.out ham (.inr (by have := LG.out; omega)))
    have Ok := hid (own_amid Oj.out ham (by omega))
    have Nk := hid (Nj.out.amid ham (by omega))
    have Bk := below_amid Bj (Nat.le_refl _) ham (by have := B3.size; omega)
    have Ck := hid (below_amid Cj.out (Nat.le_refl _) ham (by omega))
    have sk := ham.size
    clear Gj Oj Nj Cj
    clear ham Rj Xj
    obtain ⟨gv, fv, ev, hgv, hgv2, hrow⟩ := Nk.out
    cases ev
    have HML := hid (Ch.markL gv vs.length fv rk wk hvl (by omega) (by omega) hrow)
    have NN := hid (And.intro hgv hgv2)
    clear hrow Nk
    go_wp2_with fail
    refine HML.out.mono ?_
    rintro e wl ⟨rfl, _, ham⟩
    have Gl : Hid (wl.heap[G]? = some (.cells #[.int .i64 cc, .int .i64 rr.status, .int .i64 rr.now, .slice h1 rr.vars.length i1, .slice h2 rr.marks.length i2, .slice h3 rr.dues.length i3] 28)) := hid (blk_amid Gk.out ham (.inr (by have := LG.out; omega)))
    have Ol := hid (own_amid Ok.out ham (by omega))
    have Bl := below_amid Bk (Nat.le_refl _) ham (by have := B3.size; omega)
    have Cl := hid (below_amid Ck.out (Nat.le_refl _) ham (by omega))
    have sl := ham.size
    clear Gk Ok Ck
    clear ham HML
    have qk : ¬ (rk + (vs.length : Int)) < 0 := by omega
    have PX := blk_below PP.out Cl.out
    have pp0 := Ch.blk_cell PX 0
    have pp1 := Ch.blk_cell PX 1
    have pp2 := Ch.blk_cell PX 2
    have pp3 := Ch.blk_cell PX 3
    have pp4 := Ch.blk_cell PX 4
    have pp5 := Ch.blk_cell PX 5
    have ppl := Ch.blk_lt PX
    clear PX
    have pg0 := Ch.blk_cell Gl.out 0
    have pg1 := Ch.blk_cell Gl.out 1
    have pg2 := Ch.blk_cell Gl.out 2
    have pg3 := Ch.blk_cell Gl.out 3
    have pg4 := Ch.blk_cell Gl.out 4
    have pg5 := Ch.blk_cell Gl.out 5
    have pgl := Ch.blk_lt Gl.out
    go_wp2_with fail
    refine (Cr.eqR _ _ cc rr _ _ _ _ _ _ wl SR.out Ol.out.at' (I0.out.below Cl.out)).mono ?_
    rintro e wm ⟨rfl, hbm⟩
    clear pp0 pp1 pp2 pp3 pp4 pp5 ppl
    clear pg0 pg1 pg2 pg3 pg4 pg5 pgl
    have Gm : Hid (wm.heap[G]? = some (.cells #[.int .i64 cc, .int .i64 rr.status, .int .i64 rr.now, .slice h1 rr.vars.length i1, .slice h2 rr.marks.length i2, .slice h3 rr.dues.length i3] 28)) := hid (blk_below Gl.out hbm)
    have Om := hid (Ol.out.below hbm)
    have Bm := Bl.trans (hbm.mono Bl.size)
    have Cm := hid (Cl.out.trans (hbm.mono Cl.out.size))
    have sm := hbm.size
    clear Gl Ol Cl
    clear hbm
    have pg0 := Ch.blk_cell Gm.out 0
    have pg1 := Ch.blk_cell Gm.out 1
    have pg2 := Ch.blk_cell Gm.out 2
    have pg3 := Ch.blk_cell Gm.out 3
    have pg4 := Ch.blk_cell Gm.out 4
    have pg5 := Ch.blk_cell Gm.out 5
    have pgl := Ch.blk_lt Gm.out
    go_wp2_with fail
    refine (Cr.markR _ G rr cc _ _ _ wm SR.out (Nat.le_of_lt pgl) Om.out HIN.out).mono ?_
    rintro e wn ⟨rfl, hon, hwn⟩
    clear pg0 pg1 pg2 pg3 pg4 pg5 pgl
    have Gn : Hid (wn.heap[G]? = some (.cells #[.int .i64 cc, .int .i64 rr.status, .int .i64 rr.now, .slice h1 rr.vars.length i1, .slice h2 rr.marks.length i2, .slice h3 rr.dues.length i3] 28)) := hid (blk_within Gm.out hwn (.inr (Nat.le_refl _)))
    have Mn := hid hon
    have Bn := below_within Bm (Nat.le_refl _) hwn (by have := B3.size; omega)
    have Cn := hid (below_within Cm.out (Nat.le_refl _) hwn (by omega))
    have sn := hwn.size
    clear hon hwn Gm Om Cm
    have pg0 := Ch.blk_cell Gn.out 0
    have pg1 := Ch.blk_cell Gn.out 1
    have pg2 := Ch.blk_cell Gn.out 2
    have pg3 := Ch.blk_cell Gn.out 3
    have pg4 := Ch.blk_cell Gn.out 4
    have pg5 := Ch.blk_cell Gn.out 5
    have pgl := Ch.blk_lt Gn.out
    go_wp2_with fail
    refine (Cr.heldR _ rr cc _ _ _ wn SR.out Mn.out.at').mono ?_
    rintro e wo ⟨rfl, hbo⟩
    clear pg0 pg1 pg2 pg3 pg4 pg5 pgl
    have Go : Hid (wo.heap[G]? = some (.cells #[.int .i64 cc, .int .i64 rr.status, .int .i64 rr.now, .slice h1 rr.vars.length i1, .slice h2 rr.marks.length i2, .slice h3 rr.dues.length i3] 28)) := hid (blk_below Gn.out hbo)
    have Mo := hid (Mn.out.below hbo)
    have Bo := Bn.trans (hbo.mono Bn.size)
    have Co := hid (Cn.out.trans (hbo.mono Cn.out.size))
    have so := hbo.size
    clear Gn Mn Cn
    clear hbo
    have qq1 : ¬ (1 + (rr.vars.length : Int) + (rr.marks.length : Int) + (rr.dues.length : Int)) < 0 := by omega
    have qq2 : ((1 + (rr.vars.length : Int) + (rr.marks.length : Int) + (rr.dues.length : Int)) != (1 + (rr.vars.length : Int) + (rr.marks.length : Int) + (rr.dues.length : Int))) = false := by simp
    have HKod : Hid (wo.drew.heap[w.heap.size]? = some (.cells #[.int .i64 r.status, .int .i64 r.now, .slice a1 r.vars.length c1, .slice a2 r.marks.length c2, .slice a3 r.dues.length c3] 40)) := hid (blk_below HKc.out Co.out.drew)
    have HBod := hid Bo.drew
    have HKB : Hid (wo.heap[w.heap.size]? = some (.cells #[.int .i64 r.status, .int .i64 r.now, .slice a1 r.vars.length c1, .slice a2 r.marks.length c2, .slice a3 r.dues.length c3] 40)) := hid (blk_below HKc.out Co.out)
    have HBs : Hid (Below wo.heap.size wo wo.drew) := hid (Below.refl _ wo).drew
    go_wp2
    go_cut [18] from 98 (fun s18 wx => ∃ p m1 n1 m2 n2 m3 n3, s18 = .pointer (some ⟨p, 0, none⟩) ∧ Hid (Res wo wx p (.slice m1 rr.vars.length n1) (.slice m2 rr.marks.length n2) (.slice m3 rr.dues.length n3) cc rr))
    case first =>
      refine wp_region_held_drew (S := fun wx => wx.heap[w.heap.size]? = some (.cells #[.int .i64 r.status, .int .i64 r.now, .slice a1 r.vars.length c1, .slice a2 r.marks.length c2, .slice a3 r.dues.length c3] 40)) (by kernel_rfl) HKod.out (fun hHeld => ?_)
      refine wpAnyH_take (i := 0) (v := .slice b0 l.length k0) rfl (by kernel_rfl) (by kernel_rfl) (by kernel_rfl) (fun _ _ _ h => h) (Or.inl ⟨by kernel_rfl, by intro w hSw; (try dsimp only at hSw); go_simp⟩) (by assumption) ?_
      simp only [Act.put, List.setIfInBounds_toArray, List.set_cons_zero, List.set_cons_succ]
      refine wpAnyH_take (i := 2) (v := .agg #[.int .i64 r.status, .int .i64 r.now, .slice a1 r.vars.length c1, .slice a2 r.marks.length c2, .slice a3 r.dues.length c3]) rfl (by kernel_rfl) (by kernel_rfl) (by kernel_rfl) (fun _ _ _ h => h) (Or.inl ⟨by kernel_rfl, by intro w hSw; (try dsimp only at hSw); have m0 := Ch.blk_cell hSw 0; have m1 := Ch.blk_cell hSw 1; have m2 := Ch.blk_cell hSw 2; have m3 := Ch.blk_cell hSw 3; have m4 := Ch.blk_cell hSw 4; clear hSw; go_simp⟩) (by assumption) ?_
      simp only [Act.put, List.setIfInBounds_toArray, List.set_cons_zero, List.set_cons_succ]
      refine wpAnyH_take (i := 4) (v := .int .i64 x) rfl (by kernel_rfl) (by kernel_rfl) (by kernel_rfl) (fun _ _ _ h => h) (Or.inl ⟨by kernel_rfl, by intro w hSw; (try dsimp only at hSw); go_simp⟩) (by assumption) ?_
      simp only [Act.put, List.setIfInBounds_toArray, List.set_cons_zero, List.set_cons_succ]
      refine wpAnyH_take (i := 5) (v := .slice bv vs.length kv) rfl (by kernel_rfl) (by kernel_rfl) (by kernel_rfl) (fun _ _ _ h => h) (Or.inl ⟨by kernel_rfl, by intro w hSw; (try dsimp only at hSw); go_simp⟩) (by assumption) ?_
      simp only [Act.put, List.setIfInBounds_toArray, List.set_cons_zero, List.set_cons_succ]
      refine wpAnyH_ready (rs := [1, 8]) (by kernel_rfl) (by simp) ?_
      refine (AllReadyH.cons rfl (fun K hK => ?_) (AllReadyH.cons rfl (fun K hK => ?_) AllReadyH.nil))
      · go_simp
        go_at_call 9
        refine (HT1.out _ HBod.out).mono ?_
        rintro e q1 ⟨u1, rfl, hu1, hb1⟩
        obtain ⟨x0, y0, rfl⟩ := hu1.slice
        have U1 := hid hu1
        clear hu1
        have BW1 := hid (HBod.out.trans (hb1.mono HBod.out.size))
        have BS1 := hid (HBs.out.trans (hb1.mono HBs.out.size))
        have hKK1 : q1.heap[w.heap.size]? = some (.cells #[.int .i64 r.status, .int .i64 r.now, .slice a1 r.vars.length c1, .slice a2 r.marks.length c2, .slice a3 r.dues.length c3] 40) := blk_below HKB.out BS1.out
        clear hb1
        go_wp2_with fail
        refine hK.out _ _ hKK1 (fun hHeld => ?_)
        clear hK K
        try simp only [Act.put, List.setIfInBounds_toArray, List.set_cons_zero, List.set_cons_succ]
        refine wpAnyH_ready (rs := [3, 8]) (by kernel_rfl) (by simp) ?_
        refine (AllReadyH.cons rfl (fun K hK => ?_) (AllReadyH.cons rfl (fun K hK => ?_) AllReadyH.nil))
        · go_simp
          go_at_call 21
          refine (HC1.out _ BW1.out).mono ?_
          rintro e q2 ⟨p1, p2, p3, rfl, hu2, hb2⟩
          obtain ⟨x1, y1, rfl⟩ := hu2.vars.slice
          obtain ⟨x2, y2, rfl⟩ := hu2.marks.slice
          obtain ⟨x3, y3, rfl⟩ := hu2.dues.slice
          have KK2 := hid (hu2.mono (Nat.zero_le _))
          clear hu2
          have BW2 := hid (BW1.out.trans (hb2.mono BW1.out.size))
          have BS2 := hid (BS1.out.trans (hb2.mono BS1.out.size))
          have Ux2 := hid (U1.out.below hb2)
          have hKK2 : q2.heap[w.heap.size]? = some (.cells #[.int .i64 r.status, .int .i64 r.now, .slice a1 r.vars.length c1, .slice a2 r.marks.length c2, .slice a3 r.dues.length c3] 40) := blk_below HKB.out BS2.out
          clear hb2
          go_wp2_with fail
          refine hK.out _ _ hKK2 (fun hHeld => ?_)
          clear hK K
          try simp only [Act.put, List.setIfInBounds_toArray, List.set_cons_zero, List.set_cons_succ]
          refine wpAnyH_ready (rs := [6, 8]) (by kernel_rfl) (by simp) ?_
          refine (AllReadyH.cons rfl (fun K hK => ?_) (AllReadyH.cons rfl (fun K hK => ?_) AllReadyH.nil))
          · go_simp
            go_at_call 10
            refine (HV1.out _ BW2.out).mono ?_
            rintro e q3 ⟨u2, rfl, hu3, hb3⟩
            obtain ⟨x9, y9, rfl⟩ := hu3.slice
            have VV3 := hid (hu3.mono (Nat.zero_le _))
            clear hu3
            have BW3 := hid (BW2.out.trans (hb3.mono BW2.out.size))
            have BS3 := hid (BS2.out.trans (hb3.mono BS2.out.size))
            have Ux3 := hid (Ux2.out.below hb3)
            have KKx3 := hid (KK2.out.below hb3)
            have hKK3 : q3.heap[w.heap.size]? = some (.cells #[.int .i64 r.status, .int .i64 r.now, .slice a1 r.vars.length c1, .slice a2 r.marks.length c2, .slice a3 r.dues.length c3] 40) := blk_below HKB.out BS3.out
            clear hb3
            go_wp2_with fail
            refine hK.out _ _ hKK3 (fun hHeld => ?_)
            clear hK K
            try simp only [Act.put, List.setIfInBounds_toArray, List.set_cons_zero, List.set_cons_succ]
            refine wpAnyH_ready (rs := [7, 8]) (by kernel_rfl) (by simp) ?_
            refine (AllReadyH.cons rfl (fun K hK => ?_) (AllReadyH.cons rfl (fun K hK => ?_) AllReadyH.nil))
            · go_simp
              go_at_call 22
              refine (HIK.out _ _ _ _ _ _ BW3.out (Ux3.out.mono (Nat.zero_le _)) KKx3.out VV3.out).mono ?_
              rintro e q4 ⟨s1, s2, s3, rfl, hO, hb4⟩
              have hI := hO.at'
              have II4 := hid hI
              obtain ⟨m1, n1, rfl⟩ := hI.vars.slice
              obtain ⟨m2, n2, rfl⟩ := hI.marks.slice
              obtain ⟨m3, n3, rfl⟩ := hI.dues.slice
              clear hI hO
              have BW4 := hid (BW3.out.trans (hb4.mono BW3.out.size))
              have BS4 := hid (BS3.out.trans (hb4.mono BS3.out.size))
              have hKK4 : q4.heap[w.heap.size]? = some (.cells #[.int .i64 r.status, .int .i64 r.now, .slice a1 r.vars.length c1, .slice a2 r.marks.length c2, .slice a3 r.dues.length c3] 40) := blk_below HKB.out BS4.out
              clear hb4
              go_wp2_with fail
              refine hK.out _ _ hKK4 (fun hHeld => ?_)
              clear hK K
              try simp only [Act.put, List.setIfInBounds_toArray, List.set_cons_zero, List.set_cons_succ]
              refine wpAnyH_ready (rs := [8]) (by kernel_rfl) (by simp) ?_
              refine (AllReadyH.cons rfl (fun K hK => ?_) AllReadyH.nil)
              go_simp
              obtain ⟨q5, eq5⟩ : ∃ q5, q5 = (q4.alloc (.cells #[.int .i64 0, .int .i64 0, .int .i64 0, .slice none 0 0, .slice none 0 0, .slice none 0 0] 28)) := ⟨_, rfl⟩
              have hb5 : Below q4.heap.size q4 q5 := by rw [eq5]; exact new_below q4 _
              have PA5 : Hid (q5.heap[q4.heap.size]? = some (.cells #[.int .i64 0, .int .i64 0, .int .i64 0, .slice none 0 0, .slice none 0 0, .slice none 0 0] 28)) := hid (by rw [eq5]; exact Ch.new_blk _ _)
              rw [← eq5]
              clear eq5
              have LP5 : Hid (wo.heap.size ≤ q4.heap.size) := hid BS4.out.size
              have BW5 := hid (BW4.out.trans (hb5.mono BW4.out.size))
              have BS5 := hid (BS4.out.trans (hb5.mono BS4.out.size))
              have BF5 := hid hb5
              have LF5 : Hid (q4.heap.size ≤ q4.heap.size) := hid (Nat.le_refl _)
              have hKK5 : q5.heap[w.heap.size]? = some (.cells #[.int .i64 r.status, .int .i64 r.now, .slice a1 r.vars.length c1, .slice a2 r.marks.length c2, .slice a3 r.dues.length c3] 40) := blk_below HKB.out BS5.out
              clear hb5
              refine hK.out _ _ hKK5 (fun hHeld => ?_)
              clear hK K
              try simp only [Act.put, List.setIfInBounds_toArray, List.set_cons_zero, List.set_cons_succ]
              have t0 := Ch.blk_free PA5.out 0
              have t1 := Ch.blk_free PA5.out 1
              have t2 := Ch.blk_free PA5.out 2
              have t3 := Ch.blk_free PA5.out 3
              have t4 := Ch.blk_free PA5.out 4
              have t5 := Ch.blk_free PA5.out 5
              have z0 : q5.cell? ⟨q4.heap.size, 0, none⟩ = some (.int .i64 0) := Ch.blk_cell PA5.out 0
              have z1 : q5.cell? ⟨q4.heap.size, 1, none⟩ = some (.int .i64 0) := Ch.blk_cell PA5.out 1
              have z2 : q5.cell? ⟨q4.heap.size, 2, none⟩ = some (.int .i64 0) := Ch.blk_cell PA5.out 2
              have z3 : q5.cell? ⟨q4.heap.size, 3, none⟩ = some (.slice none 0 0) := Ch.blk_cell PA5.out 3
              have z4 : q5.cell? ⟨q4.heap.size, 4, none⟩ = some (.slice none 0 0) := Ch.blk_cell PA5.out 4
              have z5 : q5.cell? ⟨q4.heap.size, 5, none⟩ = some (.slice none 0 0) := Ch.blk_cell PA5.out 5
              have HRS := hid (res_b (cc := cc) BS5.out LP5.out PA5.out (II4.out.mono (Nat.zero_le _)) BF5.out LF5.out)
              have hKS : ((((((q5.setCell ⟨q4.heap.size, 0, none⟩ (.int .i64 cc)).setCell ⟨q4.heap.size, 1, none⟩ (.int .i64 rr.status)).setCell ⟨q4.heap.size, 2, none⟩ (.int .i64 rr.now)).setCell ⟨q4.heap.size, 3, none⟩ (.slice m1 rr.vars.length n1)).setCell ⟨q4.heap.size, 4, none⟩ (.slice m2 rr.marks.length n2)).setCell ⟨q4.heap.size, 5, none⟩ (.slice m3 rr.dues.length n3)).heap[w.heap.size]? = some (.cells #[.int .i64 r.status, .int .i64 r.now, .slice a1 r.vars.length c1, .slice a2 r.marks.length c2, .slice a3 r.dues.length c3] 40) := blk_below HKB.out HRS.out.bel
              refine wpAnyH_ready (rs := [9]) (by kernel_rfl) (by simp) ?_
              refine AllReadyH.cons rfl (fun K hK => ?_) AllReadyH.nil
              go_simp
              refine hK.out _ _ hKS (fun hHeld => ?_)
              clear hK K
              try simp only [Act.put, List.setIfInBounds_toArray, List.set_cons_zero, List.set_cons_succ]
              refine wpAnyH_done (by kernel_rfl) ?_ _
              go_wp2_with fail
              go_meet
              exact ⟨_, _, _, _, _, _, _, rfl, HRS⟩
            · go_simp
              obtain ⟨q4, eq4⟩ : ∃ q4, q4 = (q3.alloc (.cells #[.int .i64 0, .int .i64 0, .int .i64 0, .slice none 0 0, .slice none 0 0, .slice none 0 0] 28)) := ⟨_, rfl⟩
              have hb4 : Below q3.heap.size q3 q4 := by rw [eq4]; exact new_below q3 _
              have PA4 : Hid (q4.heap[q3.heap.size]? = some (.cells #[.int .i64 0, .int .i64 0, .int .i64 0, .slice none 0 0, .slice none 0 0, .slice none 0 0] 28)) := hid (by rw [eq4]; exact Ch.new_blk _ _)
              rw [← eq4]
              clear eq4
              have LP4 : Hid (wo.heap.size ≤ q3.heap.size) := hid BS3.out.size
              have BW4 := hid (BW3.out.trans (hb4.mono BW3.out.size))
              have BS4 := hid (BS3.out.trans (hb4.mono BS3.out.size))
              have Ux4 := hid (Ux3.out.below hb4)
              have KKx4 := hid (KKx3.out.below hb4)
              have VVx4 := hid (VV3.out.below hb4)
              have hKK4 : q4.heap[w.heap.size]? = some (.cells #[.int .i64 r.status, .int .i64 r.now, .slice a1 r.vars.length c1, .slice a2 r.marks.length c2, .slice a3 r.dues.length c3] 40) := blk_below HKB.out BS4.out
              clear hb4
              refine hK.out _ _ hKK4 (fun hHeld => ?_)
              clear hK K
              try simp only [Act.put, List.setIfInBounds_toArray, List.set_cons_zero, List.set_cons_succ]
              refine wpAnyH_ready (rs := [7]) (by kernel_rfl) (by simp) ?_
              refine (AllReadyH.cons rfl (fun K hK => ?_) AllReadyH.nil)
              go_simp
              go_at_call 22
              refine (HIK.out _ _ _ _ _ _ BW4.out (Ux4.out.mono (Nat.zero_le _)) KKx4.out VVx4.out).mono ?_
              rintro e q5 ⟨s1, s2, s3, rfl, hO, hb5⟩
              have hI := hO.at'
              have II5 := hid hI
              obtain ⟨m1, n1, rfl⟩ := hI.vars.slice
              obtain ⟨m2, n2, rfl⟩ := hI.marks.slice
              obtain ⟨m3, n3, rfl⟩ := hI.dues.slice
              clear hI hO
              have BW5 := hid (BW4.out.trans (hb5.mono BW4.out.size))
              have BS5 := hid (BS4.out.trans (hb5.mono BS4.out.size))
              have PX5 : Hid (q5.heap[q3.heap.size]? = some (.cells #[.int .i64 0, .int .i64 0, .int .i64 0, .slice none 0 0, .slice none 0 0, .slice none 0 0] 28)) := hid (blk_below PA4.out hb5)
              have hKK5 : q5.heap[w.heap.size]? = some (.cells #[.int .i64 r.status, .int .i64 r.now, .slice a1 r.vars.length c1, .slice a2 r.marks.length c2, .slice a3 r.dues.length c3] 40) := blk_below HKB.out BS5.out
              clear hb5
              go_wp2_with fail
              refine hK.out _ _ hKK5 (fun hHeld => ?_)
              clear hK K
              try simp only [Act.put, List.setIfInBounds_toArray, List.set_cons_zero, List.set_cons_succ]
              have t0 := Ch.blk_free PX5.out 0
              have t1 := Ch.blk_free PX5.out 1
              have t2 := Ch.blk_free PX5.out 2
              have t3 := Ch.blk_free PX5.out 3
              have t4 := Ch.blk_free PX5.out 4
              have t5 := Ch.blk_free PX5.out 5
              have z0 : q5.cell? ⟨q3.heap.size, 0, none⟩ = some (.int .i64 0) := Ch.blk_cell PX5.out 0
              have z1 : q5.cell? ⟨q3.heap.size, 1, none⟩ = some (.int .i64 0) := Ch.blk_cell PX5.out 1
              have z2 : q5.cell? ⟨q3.heap.size, 2, none⟩ = some (.int .i64 0) := Ch.blk_cell PX5.out 2
              have z3 : q5.cell? ⟨q3.heap.size, 3, none⟩ = some (.slice none 0 0) := Ch.blk_cell PX5.out 3
              have z4 : q5.cell? ⟨q3.heap.size, 4, none⟩ = some (.slice none 0 0) := Ch.blk_cell PX5.out 4
              have z5 : q5.cell? ⟨q3.heap.size, 5, none⟩ = some (.slice none 0 0) := Ch.blk_cell PX5.out 5
              have hpl : q3.heap.size < q4.heap.size := Ch.blk_lt PA4.out
              have HRS := hid (res_a (cc := cc) BS5.out LP4.out PX5.out II5.out hpl)
              have hKS : ((((((q5.setCell ⟨q3.heap.size, 0, none⟩ (.int .i64 cc)).setCell ⟨q3.heap.size, 1, none⟩ (.int .i64 rr.status)).setCell ⟨q3.heap.size, 2, none⟩ (.int .i64 rr.now)).setCell ⟨q3.heap.size, 3, none⟩ (.slice m1 rr.vars.length n1)).setCell ⟨q3.heap.size, 4, none⟩ (.slice m2 rr.marks.length n2)).setCell ⟨q3.heap.size, 5, none⟩ (.slice m3 rr.dues.length n3)).heap[w.heap.size]? = some (.cells #[.int .i64 r.status, .int .i64 r.now, .slice a1 r.vars.length c1, .slice a2 r.marks.length c2, .slice a3 r.dues.length c3] 40) := blk_below HKB.out HRS.out.bel
              refine wpAnyH_ready (rs := [9]) (by kernel_rfl) (by simp) ?_
              refine AllReadyH.cons rfl (fun K hK => ?_) AllReadyH.nil
              go_simp
              refine hK.out _ _ hKS (fun hHeld => ?_)
              clear hK K
              try simp only [Act.put, List.setIfInBounds_toArray, List.set_cons_zero, List.set_cons_succ]
              refine wpAnyH_done (by kernel_rfl) ?_ _
              go_wp2_with fail
              go_meet
              exact ⟨_, _, _, _, _, _, _, rfl, HRS⟩
          · go_simp
            obtain ⟨q3, eq3⟩ : ∃ q3, q3 = (q2.alloc (.cells #[.int .i64 0, .int .i64 0, .int .i64 0, .slice none 0 0, .slice none 0 0, .slice none 0 0] 28)) := ⟨_, rfl⟩
            have hb3 : Below q2.heap.size q2 q3 := by rw [eq3]; exact new_below q2 _
            have PA3 : Hid (q3.heap[q2.heap.size]? = some (.cells #[.int .i64 0, .int .i64 0, .int .i64 0, .slice none 0 0, .slice none 0 0, .slice none 0 0] 28)) := hid (by rw [eq3]; exact Ch.new_blk _ _)
            rw [← eq3]
            clear eq3
            have LP3 : Hid (wo.heap.size ≤ q2.heap.size) := hid BS2.out.size
            have BW3 := hid (BW2.out.trans (hb3.mono BW2.out.size))
            have BS3 := hid (BS2.out.trans (hb3.mono BS2.out.size))
            have Ux3 := hid (Ux2.out.below hb3)
            have KKx3 := hid (KK2.out.below hb3)
            have hKK3 : q3.heap[w.heap.size]? = some (.cells #[.int .i64 r.status, .int .i64 r.now, .slice a1 r.vars.length c1, .slice a2 r.marks.length c2, .slice a3 r.dues.length c3] 40) := blk_below HKB.out BS3.out
            clear hb3
            refine hK.out _ _ hKK3 (fun hHeld => ?_)
            clear hK K
            try simp only [Act.put, List.setIfInBounds_toArray, List.set_cons_zero, List.set_cons_succ]
            refine wpAnyH_ready (rs := [6]) (by kernel_rfl) (by simp) ?_
            refine (AllReadyH.cons rfl (fun K hK => ?_) AllReadyH.nil)
            go_simp
            go_at_call 10
            refine (HV1.out _ BW3.out).mono ?_
            rintro e q4 ⟨u2, rfl, hu3, hb4⟩
            obtain ⟨x9, y9, rfl⟩ := hu3.slice
            have VV4 := hid (hu3.mono (Nat.zero_le _))
            clear hu3
            have BW4 := hid (BW3.out.trans (hb4.mono BW3.out.size))
            have BS4 := hid (BS3.out.trans (hb4.mono BS3.out.size))
            have Ux4 := hid (Ux3.out.below hb4)
            have KKx4 := hid (KKx3.out.below hb4)
            have PX4 : Hid (q4.heap[q2.heap.size]? = some (.cells #[.int .i64 0, .int .i64 0, .int .i64 0, .slice none 0 0, .slice none 0 0, .slice none 0 0] 28)) := hid (blk_below PA3.out hb4)
            have hKK4 : q4.heap[w.heap.size]? = some (.cells #[.int .i64 r.status, .int .i64 r.now, .slice a1 r.vars.length c1, .slice a2 r.marks.length c2, .slice a3 r.dues.length c3] 40) := blk_below HKB.out BS4.out
            clear hb4
            go_wp2_with fail
            refine hK.out _ _ hKK4 (fun hHeld => ?_)
            clear hK K
            try simp only [Act.put, List.setIfInBounds_toArray, List.set_cons_zero, List.set_cons_succ]
            refine wpAnyH_ready (rs := [7]) (by kernel_rfl) (by simp) ?_
            refine (AllReadyH.cons rfl (fun K hK => ?_) AllReadyH.nil)
            go_simp
            go_at_call 22
            refine (HIK.out _ _ _ _ _ _ BW4.out (Ux4.out.mono (Nat.zero_le _)) KKx4.out VV4.out).mono ?_
            rintro e q5 ⟨s1, s2, s3, rfl, hO, hb5⟩
            have hI := hO.at'
            have II5 := hid hI
            obtain ⟨m1, n1, rfl⟩ := hI.vars.slice
            obtain ⟨m2, n2, rfl⟩ := hI.marks.slice
            obtain ⟨m3, n3, rfl⟩ := hI.dues.slice
            clear hI hO
            have BW5 := hid (BW4.out.trans (hb5.mono BW4.out.size))
            have BS5 := hid (BS4.out.trans (hb5.mono BS4.out.size))
            have PX5 : Hid (q5.heap[q2.heap.size]? = some (.cells #[.int .i64 0, .int .i64 0, .int .i64 0, .slice none 0 0, .slice none 0 0, .slice none 0 0] 28)) := hid (blk_below PX4.out hb5)
            have hKK5 : q5.heap[w.heap.size]? = some (.cells #[.int .i64 r.status, .int .i64 r.now, .slice a1 r.vars.length c1, .slice a2 r.marks.length c2, .slice a3 r.dues.length c3] 40) := blk_below HKB.out BS5.out
            clear hb5
            go_wp2_with fail
            refine hK.out _ _ hKK5 (fun hHeld => ?_)
            clear hK K
            try simp only [Act.put, List.setIfInBounds_toArray, List.set_cons_zero, List.set_cons_succ]
            have t0 := Ch.blk_free PX5.out 0
            have t1 := Ch.blk_free PX5.out 1
            have t2 := Ch.blk_free PX5.out 2
            have t3 := Ch.blk_free PX5.out 3
            have t4 := Ch.blk_free PX5.out 4
            have t5 := Ch.blk_free PX5.out 5
            have z0 : q5.cell? ⟨q2.heap.size, 0, none⟩ = some (.int .i64 0) := Ch.blk_cell PX5.out 0
            have z1 : q5.cell? ⟨q2.heap.size, 1, none⟩ = some (.int .i64 0) := Ch.blk_cell PX5.out 1
            have z2 : q5.cell? ⟨q2.heap.size, 2, none⟩ = some (.int .i64 0) := Ch.blk_cell PX5.out 2
            have z3 : q5.cell? ⟨q2.heap.size, 3, none⟩ = some (.slice none 0 0) := Ch.blk_cell PX5.out 3
            have z4 : q5.cell? ⟨q2.heap.size, 4, none⟩ = some (.slice none 0 0) := Ch.blk_cell PX5.out 4
            have z5 : q5.cell? ⟨q2.heap.size, 5, none⟩ = some (.slice none 0 0) := Ch.blk_cell PX5.out 5
            have hpl : q2.heap.size < q4.heap.size := Ch.blk_lt PX4.out
            have HRS := hid (res_a (cc := cc) BS5.out LP3.out PX5.out II5.out hpl)
            have hKS : ((((((q5.setCell ⟨q2.heap.size, 0, none⟩ (.int .i64 cc)).setCell ⟨q2.heap.size, 1, none⟩ (.int .i64 rr.status)).setCell ⟨q2.heap.size, 2, none⟩ (.int .i64 rr.now)).setCell ⟨q2.heap.size, 3, none⟩ (.slice m1 rr.vars.length n1)).setCell ⟨q2.heap.size, 4, none⟩ (.slice m2 rr.marks.length n2)).setCell ⟨q2.heap.size, 5, none⟩ (.slice m3 rr.dues.length n3)).heap[w.heap.size]? = some (.cells #[.int .i64 r.status, .int .i64 r.now, .slice a1 r.vars.length c1, .slice a2 r.marks.length c2, .slice a3 r.dues.length c3] 40) := blk_below HKB.out HRS.out.bel
            refine wpAnyH_ready (rs := [9]) (by kernel_rfl) (by simp) ?_
            refine AllReadyH.cons rfl (fun K hK => ?_) AllReadyH.nil
            go_simp
            refine hK.out _ _ hKS (fun hHeld => ?_)
            clear hK K
            try simp only [Act.put, List.setIfInBounds_toArray, List.set_cons_zero, List.set_cons_succ]
            refine wpAnyH_done (by kernel_rfl) ?_ _
            go_wp2_with fail
            go_meet
            exact ⟨_, _, _, _, _, _, _, rfl, HRS⟩
        · go_simp
          obtain ⟨q2, eq2⟩ : ∃ q2, q2 = (q1.alloc (.cells #[.int .i64 0, .int .i64 0, .int .i64 0, .slice none 0 0, .slice none 0 0, .slice none 0 0] 28)) := ⟨_, rfl⟩
          have hb2 : Below q1.heap.size q1 q2 := by rw [eq2]; exact new_below q1 _
          have PA2 : Hid (q2.heap[q1.heap.size]? = some (.cells #[.int .i64 0, .int .i64 0, .int .i64 0, .slice none 0 0, .slice none 0 0, .slice none 0 0] 28)) := hid (by rw [eq2]; exact Ch.new_blk _ _)
          rw [← eq2]
          clear eq2
          have LP2 : Hid (wo.heap.size ≤ q1.heap.size) := hid BS1.out.size
          have BW2 := hid (BW1.out.trans (hb2.mono BW1.out.size))
          have BS2 := hid (BS1.out.trans (hb2.mono BS1.out.size))
          have Ux2 := hid (U1.out.below hb2)
          have hKK2 : q2.heap[w.heap.size]? = some (.cells #[.int .i64 r.status, .int .i64 r.now, .slice a1 r.vars.length c1, .slice a2 r.marks.length c2, .slice a3 r.dues.length c3] 40) := blk_below HKB.out BS2.out
          clear hb2
          refine hK.out _ _ hKK2 (fun hHeld => ?_)
          clear hK K
          try simp only [Act.put, List.setIfInBounds_toArray, List.set_cons_zero, List.set_cons_succ]
          refine wpAnyH_ready (rs := [3]) (by kernel_rfl) (by simp) ?_
          refine (AllReadyH.cons rfl (fun K hK => ?_) AllReadyH.nil)
          go_simp
          go_at_call 21
          refine (HC1.out _ BW2.out).mono ?_
          rintro e q3 ⟨p1, p2, p3, rfl, hu2, hb3⟩
          obtain ⟨x1, y1, rfl⟩ := hu2.vars.slice
          obtain ⟨x2, y2, rfl⟩ := hu2.marks.slice
          obtain ⟨x3, y3, rfl⟩ := hu2.dues.slice
          have KK3 := hid (hu2.mono (Nat.zero_le _))
          clear hu2
          have BW3 := hid (BW2.out.trans (hb3.mono BW2.out.size))
          have BS3 := hid (BS2.out.trans (hb3.mono BS2.out.size))
          have Ux3 := hid (Ux2.out.below hb3)
          have PX3 : Hid (q3.heap[q1.heap.size]? = some (.cells #[.int .i64 0, .int .i64 0, .int .i64 0, .slice none 0 0, .slice none 0 0, .slice none 0 0] 28)) := hid (blk_below PA2.out hb3)
          have hKK3 : q3.heap[w.heap.size]? = some (.cells #[.int .i64 r.status, .int .i64 r.now, .slice a1 r.vars.length c1, .slice a2 r.marks.length c2, .slice a3 r.dues.length c3] 40) := blk_below HKB.out BS3.out
          clear hb3
          go_wp2_with fail
          refine hK.out _ _ hKK3 (fun hHeld => ?_)
          clear hK K
          try simp only [Act.put, List.setIfInBounds_toArray, List.set_cons_zero, List.set_cons_succ]
          refine wpAnyH_ready (rs := [6]) (by kernel_rfl) (by simp) ?_
          refine (AllReadyH.cons rfl (fun K hK => ?_) AllReadyH.nil)
          go_simp
          go_at_call 10
          refine (HV1.out _ BW3.out).mono ?_
          rintro e q4 ⟨u2, rfl, hu3, hb4⟩
          obtain ⟨x9, y9, rfl⟩ := hu3.slice
          have VV4 := hid (hu3.mono (Nat.zero_le _))
          clear hu3
          have BW4 := hid (BW3.out.trans (hb4.mono BW3.out.size))
          have BS4 := hid (BS3.out.trans (hb4.mono BS3.out.size))
          have Ux4 := hid (Ux3.out.below hb4)
          have KKx4 := hid (KK3.out.below hb4)
          have PX4 : Hid (q4.heap[q1.heap.size]? = some (.cells #[.int .i64 0, .int .i64 0, .int .i64 0, .slice none 0 0, .slice none 0 0, .slice none 0 0] 28)) := hid (blk_below PX3.out hb4)
          have hKK4 : q4.heap[w.heap.size]? = some (.cells #[.int .i64 r.status, .int .i64 r.now, .slice a1 r.vars.length c1, .slice a2 r.marks.length c2, .slice a3 r.dues.length c3] 40) := blk_below HKB.out BS4.out
          clear hb4
          go_wp2_with fail
          refine hK.out _ _ hKK4 (fun hHeld => ?_)
          clear hK K
          try simp only [Act.put, List.setIfInBounds_toArray, List.set_cons_zero, List.set_cons_succ]
          refine wpAnyH_ready (rs := [7]) (by kernel_rfl) (by simp) ?_
          refine (AllReadyH.cons rfl (fun K hK => ?_) AllReadyH.nil)
          go_simp
          go_at_call 22
          refine (HIK.out _ _ _ _ _ _ BW4.out (Ux4.out.mono (Nat.zero_le _)) KKx4.out VV4.out).mono ?_
          rintro e q5 ⟨s1, s2, s3, rfl, hO, hb5⟩
          have hI := hO.at'
          have II5 := hid hI
          obtain ⟨m1, n1, rfl⟩ := hI.vars.slice
          obtain ⟨m2, n2, rfl⟩ := hI.marks.slice
          obtain ⟨m3, n3, rfl⟩ := hI.dues.slice
          clear hI hO
          have BW5 := hid (BW4.out.trans (hb5.mono BW4.out.size))
          have BS5 := hid (BS4.out.trans (hb5.mono BS4.out.size))
          have PX5 : Hid (q5.heap[q1.heap.size]? = some (.cells #[.int .i64 0, .int .i64 0, .int .i64 0, .slice none 0 0, .slice none 0 0, .slice none 0 0] 28)) := hid (blk_below PX4.out hb5)
          have hKK5 : q5.heap[w.heap.size]? = some (.cells #[.int .i64 r.status, .int .i64 r.now, .slice a1 r.vars.length c1, .slice a2 r.marks.length c2, .slice a3 r.dues.length c3] 40) := blk_below HKB.out BS5.out
          clear hb5
          go_wp2_with fail
          refine hK.out _ _ hKK5 (fun hHeld => ?_)
          clear hK K
          try simp only [Act.put, List.setIfInBounds_toArray, List.set_cons_zero, List.set_cons_succ]
          have t0 := Ch.blk_free PX5.out 0
          have t1 := Ch.blk_free PX5.out 1
          have t2 := Ch.blk_free PX5.out 2
          have t3 := Ch.blk_free PX5.out 3
          have t4 := Ch.blk_free PX5.out 4
          have t5 := Ch.blk_free PX5.out 5
          have z0 : q5.cell? ⟨q1.heap.size, 0, none⟩ = some (.int .i64 0) := Ch.blk_cell PX5.out 0
          have z1 : q5.cell? ⟨q1.heap.size, 1, none⟩ = some (.int .i64 0) := Ch.blk_cell PX5.out 1
          have z2 : q5.cell? ⟨q1.heap.size, 2, none⟩ = some (.int .i64 0) := Ch.blk_cell PX5.out 2
          have z3 : q5.cell? ⟨q1.heap.size, 3, none⟩ = some (.slice none 0 0) := Ch.blk_cell PX5.out 3
          have z4 : q5.cell? ⟨q1.heap.size, 4, none⟩ = some (.slice none 0 0) := Ch.blk_cell PX5.out 4
          have z5 : q5.cell? ⟨q1.heap.size, 5, none⟩ = some (.slice none 0 0) := Ch.blk_cell PX5.out 5
          have hpl : q1.heap.size < q4.heap.size := Ch.blk_lt PX4.out
          have HRS := hid (res_a (cc := cc) BS5.out LP2.out PX5.out II5.out hpl)
          have hKS : ((((((q5.setCell ⟨q1.heap.size, 0, none⟩ (.int .i64 cc)).setCell ⟨q1.heap.size, 1, none⟩ (.int .i64 rr.status)).setCell ⟨q1.heap.size, 2, none⟩ (.int .i64 rr.now)).setCell ⟨q1.heap.size, 3, none⟩ (.slice m1 rr.vars.length n1)).setCell ⟨q1.heap.size, 4, none⟩ (.slice m2 rr.marks.length n2)).setCell ⟨q1.heap.size, 5, none⟩ (.slice m3 rr.dues.length n3)).heap[w.heap.size]? = some (.cells #[.int .i64 r.status, .int .i64 r.now, .slice a1 r.vars.length c1, .slice a2 r.marks.length c2, .slice a3 r.dues.length c3] 40) := blk_below HKB.out HRS.out.bel
          refine wpAnyH_ready (rs := [9]) (by kernel_rfl) (by simp) ?_
          refine AllReadyH.cons rfl (fun K hK => ?_) AllReadyH.nil
          go_simp
          refine hK.out _ _ hKS (fun hHeld => ?_)
          clear hK K
          try simp only [Act.put, List.setIfInBounds_toArray, List.set_cons_zero, List.set_cons_succ]
          refine wpAnyH_done (by kernel_rfl) ?_ _
          go_wp2_with fail
          go_meet
          exact ⟨_, _, _, _, _, _, _, rfl, HRS⟩
      · go_simp
        obtain ⟨q1, eq1⟩ : ∃ q1, q1 = (wo.alloc (.cells #[.int .i64 0, .int .i64 0, .int .i64 0, .slice none 0 0, .slice none 0 0, .slice none 0 0] 28)).drew := ⟨_, rfl⟩
        have hb1 : Below wo.drew.heap.size wo.drew q1 := by rw [eq1]; exact new_below wo.drew _
        have PA1 : Hid (q1.heap[wo.heap.size]? = some (.cells #[.int .i64 0, .int .i64 0, .int .i64 0, .slice none 0 0, .slice none 0 0, .slice none 0 0] 28)) := hid (by rw [eq1]; exact Ch.new_blk _ _)
        rw [← eq1]
        clear eq1
        have LP1 : Hid (wo.heap.size ≤ wo.heap.size) := hid HBs.out.size
        have BW1 := hid (HBod.out.trans (hb1.mono HBod.out.size))
        have BS1 := hid (HBs.out.trans (hb1.mono HBs.out.size))
        have hKK1 : q1.heap[w.heap.size]? = some (.cells #[.int .i64 r.status, .int .i64 r.now, .slice a1 r.vars.length c1, .slice a2 r.marks.length c2, .slice a3 r.dues.length c3] 40) := blk_below HKB.out BS1.out
        clear hb1
        refine hK.out _ _ hKK1 (fun hHeld => ?_)
        clear hK K
        try simp only [Act.put, List.setIfInBounds_toArray, List.set_cons_zero, List.set_cons_succ]
        refine wpAnyH_ready (rs := [1]) (by kernel_rfl) (by simp) ?_
        refine (AllReadyH.cons rfl (fun K hK => ?_) AllReadyH.nil)
        go_simp
        go_at_call 9
        refine (HT1.out _ BW1.out).mono ?_
        rintro e q2 ⟨u1, rfl, hu1, hb2⟩
        obtain ⟨x0, y0, rfl⟩ := hu1.slice
        have U2 := hid hu1
        clear hu1
        have BW2 := hid (BW1.out.trans (hb2.mono BW1.out.size))
        have BS2 := hid (BS1.out.trans (hb2.mono BS1.out.size))
        have PX2 : Hid (q2.heap[wo.heap.size]? = some (.cells #[.int .i64 0, .int .i64 0, .int .i64 0, .slice none 0 0, .slice none 0 0, .slice none 0 0] 28)) := hid (blk_below PA1.out hb2)
        have hKK2 : q2.heap[w.heap.size]? = some (.cells #[.int .i64 r.status, .int .i64 r.now, .slice a1 r.vars.length c1, .slice a2 r.marks.length c2, .slice a3 r.dues.length c3] 40) := blk_below HKB.out BS2.out
        clear hb2
        go_wp2_with fail
        refine hK.out _ _ hKK2 (fun hHeld => ?_)
        clear hK K
        try simp only [Act.put, List.setIfInBounds_toArray, List.set_cons_zero, List.set_cons_succ]
        refine wpAnyH_ready (rs := [3]) (by kernel_rfl) (by simp) ?_
        refine (AllReadyH.cons rfl (fun K hK => ?_) AllReadyH.nil)
        go_simp
        go_at_call 21
        refine (HC1.out _ BW2.out).mono ?_
        rintro e q3 ⟨p1, p2, p3, rfl, hu2, hb3⟩
        obtain ⟨x1, y1, rfl⟩ := hu2.vars.slice
        obtain ⟨x2, y2, rfl⟩ := hu2.marks.slice
        obtain ⟨x3, y3, rfl⟩ := hu2.dues.slice
        have KK3 := hid (hu2.mono (Nat.zero_le _))
        clear hu2
        have BW3 := hid (BW2.out.trans (hb3.mono BW2.out.size))
        have BS3 := hid (BS2.out.trans (hb3.mono BS2.out.size))
        have Ux3 := hid (U2.out.below hb3)
        have PX3 : Hid (q3.heap[wo.heap.size]? = some (.cells #[.int .i64 0, .int .i64 0, .int .i64 0, .slice none 0 0, .slice none 0 0, .slice none 0 0] 28)) := hid (blk_below PX2.out hb3)
        have hKK3 : q3.heap[w.heap.size]? = some (.cells #[.int .i64 r.status, .int .i64 r.now, .slice a1 r.vars.length c1, .slice a2 r.marks.length c2, .slice a3 r.dues.length c3] 40) := blk_below HKB.out BS3.out
        clear hb3
        go_wp2_with fail
        refine hK.out _ _ hKK3 (fun hHeld => ?_)
        clear hK K
        try simp only [Act.put, List.setIfInBounds_toArray, List.set_cons_zero, List.set_cons_succ]
        refine wpAnyH_ready (rs := [6]) (by kernel_rfl) (by simp) ?_
        refine (AllReadyH.cons rfl (fun K hK => ?_) AllReadyH.nil)
        go_simp
        go_at_call 10
        refine (HV1.out _ BW3.out).mono ?_
        rintro e q4 ⟨u2, rfl, hu3, hb4⟩
        obtain ⟨x9, y9, rfl⟩ := hu3.slice
        have VV4 := hid (hu3.mono (Nat.zero_le _))
        clear hu3
        have BW4 := hid (BW3.out.trans (hb4.mono BW3.out.size))
        have BS4 := hid (BS3.out.trans (hb4.mono BS3.out.size))
        have Ux4 := hid (Ux3.out.below hb4)
        have KKx4 := hid (KK3.out.below hb4)
        have PX4 : Hid (q4.heap[wo.heap.size]? = some (.cells #[.int .i64 0, .int .i64 0, .int .i64 0, .slice none 0 0, .slice none 0 0, .slice none 0 0] 28)) := hid (blk_below PX3.out hb4)
        have hKK4 : q4.heap[w.heap.size]? = some (.cells #[.int .i64 r.status, .int .i64 r.now, .slice a1 r.vars.length c1, .slice a2 r.marks.length c2, .slice a3 r.dues.length c3] 40) := blk_below HKB.out BS4.out
        clear hb4
        go_wp2_with fail
        refine hK.out _ _ hKK4 (fun hHeld => ?_)
        clear hK K
        try simp only [Act.put, List.setIfInBounds_toArray, List.set_cons_zero, List.set_cons_succ]
        refine wpAnyH_ready (rs := [7]) (by kernel_rfl) (by simp) ?_
        refine (AllReadyH.cons rfl (fun K hK => ?_) AllReadyH.nil)
        go_simp
        go_at_call 22
        refine (HIK.out _ _ _ _ _ _ BW4.out (Ux4.out.mono (Nat.zero_le _)) KKx4.out VV4.out).mono ?_
        rintro e q5 ⟨s1, s2, s3, rfl, hO, hb5⟩
        have hI := hO.at'
        have II5 := hid hI
        obtain ⟨m1, n1, rfl⟩ := hI.vars.slice
        obtain ⟨m2, n2, rfl⟩ := hI.marks.slice
        obtain ⟨m3, n3, rfl⟩ := hI.dues.slice
        clear hI hO
        have BW5 := hid (BW4.out.trans (hb5.mono BW4.out.size))
        have BS5 := hid (BS4.out.trans (hb5.mono BS4.out.size))
        have PX5 : Hid (q5.heap[wo.heap.size]? = some (.cells #[.int .i64 0, .int .i64 0, .int .i64 0, .slice none 0 0, .slice none 0 0, .slice none 0 0] 28)) := hid (blk_below PX4.out hb5)
        have hKK5 : q5.heap[w.heap.size]? = some (.cells #[.int .i64 r.status, .int .i64 r.now, .slice a1 r.vars.length c1, .slice a2 r.marks.length c2, .slice a3 r.dues.length c3] 40) := blk_below HKB.out BS5.out
        clear hb5
        go_wp2_with fail
        refine hK.out _ _ hKK5 (fun hHeld => ?_)
        clear hK K
        try simp only [Act.put, List.setIfInBounds_toArray, List.set_cons_zero, List.set_cons_succ]
        have t0 := Ch.blk_free PX5.out 0
        have t1 := Ch.blk_free PX5.out 1
        have t2 := Ch.blk_free PX5.out 2
        have t3 := Ch.blk_free PX5.out 3
        have t4 := Ch.blk_free PX5.out 4
        have t5 := Ch.blk_free PX5.out 5
        have z0 : q5.cell? ⟨wo.heap.size, 0, none⟩ = some (.int .i64 0) := Ch.blk_cell PX5.out 0
        have z1 : q5.cell? ⟨wo.heap.size, 1, none⟩ = some (.int .i64 0) := Ch.blk_cell PX5.out 1
        have z2 : q5.cell? ⟨wo.heap.size, 2, none⟩ = some (.int .i64 0) := Ch.blk_cell PX5.out 2
        have z3 : q5.cell? ⟨wo.heap.size, 3, none⟩ = some (.slice none 0 0) := Ch.blk_cell PX5.out 3
        have z4 : q5.cell? ⟨wo.heap.size, 4, none⟩ = some (.slice none 0 0) := Ch.blk_cell PX5.out 4
        have z5 : q5.cell? ⟨wo.heap.size, 5, none⟩ = some (.slice none 0 0) := Ch.blk_cell PX5.out 5
        have hpl : wo.heap.size < q4.heap.size := Ch.blk_lt PX4.out
        have HRS := hid (res_a (cc := cc) BS5.out LP1.out PX5.out II5.out hpl)
        have hKS : ((((((q5.setCell ⟨wo.heap.size, 0, none⟩ (.int .i64 cc)).setCell ⟨wo.heap.size, 1, none⟩ (.int .i64 rr.status)).setCell ⟨wo.heap.size, 2, none⟩ (.int .i64 rr.now)).setCell ⟨wo.heap.size, 3, none⟩ (.slice m1 rr.vars.length n1)).setCell ⟨wo.heap.size, 4, none⟩ (.slice m2 rr.marks.length n2)).setCell ⟨wo.heap.size, 5, none⟩ (.slice m3 rr.dues.length n3)).heap[w.heap.size]? = some (.cells #[.int .i64 r.status, .int .i64 r.now, .slice a1 r.vars.length c1, .slice a2 r.marks.length c2, .slice a3 r.dues.length c3] 40) := blk_below HKB.out HRS.out.bel
        refine wpAnyH_ready (rs := [9]) (by kernel_rfl) (by simp) ?_
        refine AllReadyH.cons rfl (fun K hK => ?_) AllReadyH.nil
        go_simp
        refine hK.out _ _ hKS (fun hHeld => ?_)
        clear hK K
        try simp only [Act.put, List.setIfInBounds_toArray, List.set_cons_zero, List.set_cons_succ]
        refine wpAnyH_done (by kernel_rfl) ?_ _
        go_wp2_with fail
        go_meet
        exact ⟨_, _, _, _, _, _, _, rfl, HRS⟩
    case rest =>
      obtain ⟨p, m1, n1, m2, n2, m3, n3, rfl, HRS⟩ := hcut
      have hxc := HRS.out.bel
      have Bc := Bo.trans (hxc.mono Bo.size)
      have Cc := hid (Co.out.trans (hxc.mono Co.out.size))
      have PH := hid HRS.out.blk
      have J0 := hid HRS.out.lst
      have Gc : Hid (wc.heap[G]? = some (.cells #[.int .i64 cc, .int .i64 rr.status, .int .i64 rr.now, .slice h1 rr.vars.length i1, .slice h2 rr.marks.length i2, .slice h3 rr.dues.length i3] 28)) := hid (blk_below Go.out hxc)
      have Mc := hid (Mo.out.below hxc)
      clear HRS Go Mo Co hxc HKB HKod HBod
      have pg0 := Ch.blk_cell PH.out 0
      have pg1 := Ch.blk_cell PH.out 1
      have pg2 := Ch.blk_cell PH.out 2
      have pg3 := Ch.blk_cell PH.out 3
      have pg4 := Ch.blk_cell PH.out 4
      have pg5 := Ch.blk_cell PH.out 5
      have pgl := Ch.blk_lt PH.out
      have PX := blk_below PP.out Cc.out
      have pp0 := Ch.blk_cell PX 0
      have pp1 := Ch.blk_cell PX 1
      have pp2 := Ch.blk_cell PX 2
      have pp3 := Ch.blk_cell PX 3
      have pp4 := Ch.blk_cell PX 4
      have pp5 := Ch.blk_cell PX 5
      have ppl := Ch.blk_lt PX
      clear PX
      go_wp2_with fail
      refine (Cr.eqR _ _ cc rr _ _ _ _ _ _ wc SR.out J0.out (I0.out.below Cc.out)).mono ?_
      rintro e wz ⟨rfl, hbz⟩
      clear pp0 pp1 pp2 pp3 pp4 pp5 ppl
      clear pg0 pg1 pg2 pg3 pg4 pg5 pgl
      have Gz : Hid (wz.heap[G]? = some (.cells #[.int .i64 cc, .int .i64 rr.status, .int .i64 rr.now, .slice h1 rr.vars.length i1, .slice h2 rr.marks.length i2, .slice h3 rr.dues.length i3] 28)) := hid (blk_below Gc.out hbz)
      have Mz := hid (Mc.out.below hbz)
      have Bz := Bc.trans (hbz.mono Bc.size)
      clear hbz Gc Mc
      have pg0 := Ch.blk_cell Gz.out 0
      have pg1 := Ch.blk_cell Gz.out 1
      have pg2 := Ch.blk_cell Gz.out 2
      have pg3 := Ch.blk_cell Gz.out 3
      have pg4 := Ch.blk_cell Gz.out 4
      have pg5 := Ch.blk_cell Gz.out 5
      have pgl := Ch.blk_lt Gz.out
      go_wp2_with fail
      refine (Cr.heldR _ rr cc _ _ _ wz SR.out Mz.out.at').mono ?_
      rintro e wq ⟨rfl, hbq⟩
      have Bq := Bz.trans (hbq.mono Bz.size)
      go_wp2
      go_ret
      exact ⟨rfl, Bq⟩
set_option maxRecDepth 100000 in
theorem contract (H : Type) (enc : TypeId × Value → H) (W : World) (base : Nat) (args : Array Value) (ds gs : List (DataW H)) (before : List MemPlace)
    (hval : ∀ (j : Nat) t v, Tryz.f4.params[j]? = some t → args[j]? = some v → Value.okWide Tryz.prog W .any base t v)
    (hW : DataW.Whole enc Tryz.prog Tryz.f4.params.toList Rows.fnExactDoneChartSpec.vars false W args.toList ds gs before) (hL : laidMetH Tryz.prog Rows.fnExactDoneChartRow.laid W) :
    Calls Tryz.prog 4 args W fun e W' => ∃ v, e = .returned v ∧ Rows.fnExactDoneChartSpec.post enc Tryz.prog Tryz.f4 false true false false W args v W' := by
  have hent := Crd.rul_of hL
  have hW' := hW
  obtain ⟨p, q, hA0, hV, rfl, hfz, hnd⟩ := hW
  have hA : DataW.TrodAll enc Tryz.prog W 0 (fun _ => true) true Tryz.f4.params.toList args.toList ds p := hA0
  rw [Tryz.params4] at hA hval
  obtain ⟨v0, vs0, d0, ds0, p0, q0, hargs, rfl, rfl, h0, r0⟩ := trodAll_cons hA
  obtain ⟨v1, vs1, d1, ds1, p1, q1, rfl, rfl, rfl, h1, r1⟩ := trodAll_cons r0
  obtain ⟨v2, vs2, d2, ds2, p2, q2, rfl, rfl, rfl, h2, r2⟩ := trodAll_cons r1
  obtain ⟨v3, vs3, d3, ds3, p3, q3, rfl, rfl, rfl, h3, r3⟩ := trodAll_cons r2
  obtain ⟨rfl, rfl, rfl⟩ := trodAll_nil r3
  obtain rfl : args = #[v0, v1, v2, v3] := by cases args; simp_all
  obtain ⟨a0, len0, cap0, rfl⟩ := okWide_slice Tryz.underlying22 (hval 0 22 v0 rfl rfl)
  have k0 := h0
  have lt0 : ∀ x ∈ p0, x.block < W.heap.size := by obtain ⟨m, hm⟩ := k0; exact DataW.trod_lt m _ _ _ hm
  obtain ⟨l0, ga0, gb0, gc0⟩ : ∃ es, St.At W 0 (.slice a0 len0 cap0) es ∧ St.Ok es ∧ es.length ≤ maxLen := by
    obtain ⟨fuel, hf⟩ := h0
    exact St.open_all (by simpa [Value.cells] using hf)
  obtain ⟨cs1, rfl, _⟩ := okWide_struct Tryz.underlying40 (hval 1 40 v1 rfl rfl)
  have k1 := h1
  have lt1 : ∀ x ∈ p1, x.block < W.heap.size := by obtain ⟨m, hm⟩ := k1; exact DataW.trod_lt m _ _ _ hm
  obtain ⟨g1, n1, f1, e1, hc1, ga1, gk1⟩ : ∃ (g : Ch.RunD) (vn vf ve : Value), cs1.toList = [.int .i64 g.status, .int .i64 g.now, vn, vf, ve] ∧ Ch.At W 0 vn vf ve g ∧ Ch.Ok g := by
    obtain ⟨fuel, hf⟩ := h1
    exact Ch.open_all (by simpa [Value.cells] using hf)
  obtain rfl : cs1 = #[.int .i64 g1.status, .int .i64 g1.now, n1, f1, e1] := by cases cs1; simp_all
  obtain ⟨x2, rfl, rfl, rfl, wx2⟩ := open_int Tryz.underlying2 (hval 2 2 v2 rfl rfl) h2
  obtain ⟨a3, len3, cap3, rfl⟩ := okWide_slice Tryz.underlying23 (hval 3 23 v3 rfl rfl)
  have k3 := h3
  have lt3 : ∀ x ∈ p3, x.block < W.heap.size := by obtain ⟨m, hm⟩ := k3; exact DataW.trod_lt m _ _ _ hm
  obtain ⟨l3, ga3, gc3⟩ : ∃ es, Nu.At W 0 (.slice a3 len3 cap3) es ∧ es.length ≤ maxLen := by
    obtain ⟨fuel, hf⟩ := h3
    exact Nu.open_all (by simpa [Value.cells] using hf)
  clear hA0
  refine (walk l0 _ g1 _ _ _ x2 l3 _ W gc0 gb0 gk1 gc3 ga0 ga1 ga3 hent).mono fun e W' ⟨he, bel⟩ => ?_
  subst he
  have hV0 := hV
  obtain ⟨g, t, cs, fuel, dv, pv, rfl, hg, ht, hvar, hd, rfl⟩ := trodVars_one hV
  have hv' := Below.trodVars Crd.laidOut bel (ns := Rows.fnExactDoneChartSpec.vars) (by kernel_rfl) hV0
  exact ⟨_, rfl, _, _, _, [], _, _, hW', trodAll_mk1 (shut_bool Tryz.underlying4 _), (trodAll_cons_mk (Below.trod Crd.laidOut (by kernel_rfl) (of_decide_eq_true (by kernel_rfl)) k0 bel lt0) (trodAll_cons_mk (Below.trod Crd.laidOut (by kernel_rfl) (of_decide_eq_true (by kernel_rfl)) k1 bel lt1) (trodAll_cons_mk (shut_int Tryz.underlying2 wx2) (trodAll_cons_mk (Below.trod Crd.laidOut (by kernel_rfl) (of_decide_eq_true (by kernel_rfl)) k3 bel lt3) trodAll_mk0)))), hv', bel.frame _, fun h => by cases h⟩
theorem laid_met (os : Os) : laidMet Tryz.prog Rows.fnExactDoneChartRow.laid ((Crd.laidOver (World.holding Tryz.prog os ⟨#[], #[], []⟩)).forCall (fun _ _ => 0) ⟨#[], #[.slice Option.none 0 0, .agg #[.int .i64 0, .int .i64 0, .slice Option.none 0 0, .slice Option.none 0 0, .slice Option.none 0 0], .int .i64 0, .slice Option.none 0 0], []⟩).memory :=
  laidMet_of_run' 8 (by kernel_rfl) (by kernel_rfl)
theorem reads (os : Os) {H : Type} (enc : TypeId × Value → H) : ∃ places, DataW.whole enc Tryz.prog ((Crd.laidOver (World.holding Tryz.prog os ⟨#[], #[], []⟩)).forCall (fun _ _ => 0) ⟨#[], #[.slice Option.none 0 0, .agg #[.int .i64 0, .int .i64 0, .slice Option.none 0 0, .slice Option.none 0 0, .slice Option.none 0 0], .int .i64 0, .slice Option.none 0 0], []⟩).memory Tryz.f4.params.toList Rows.fnExactDoneChartSpec.vars false #[Value.slice Option.none 0 0, Value.agg #[.int .i64 0, .int .i64 0, .slice Option.none 0 0, .slice Option.none 0 0, .slice Option.none 0 0], Value.int .i64 0, Value.slice Option.none 0 0].toList 8 = some ([.nil, .agg [.lit (.int .i64 0), .lit (.int .i64 0), .nil, .nil, .nil], .lit (.int .i64 0), .nil], [Rows.laid_loop_example_g00343_impl_stepRules], places) :=
  ⟨MemPlace.row ⟨0, 0, Option.none⟩ 56, by kernel_rfl⟩
set_option maxRecDepth 100000 in
theorem lifted (os : Os) (started : os.Started) (H : Type) (enc : TypeId × Value → H) (F : Stop.Interp) :
    ReturnsInHanded {} Tryz.checked os 4 .any ((OpenSpec.ofChange Rows.fnExactDoneChartSpec).preRow enc Tryz.prog Tryz.f4 Rows.fnExactDoneChartRow.domain false Rows.fnExactDoneChartRow.laid) (((OpenSpec.ofChange Rows.fnExactDoneChartSpec).at F).post enc Tryz.prog Tryz.f4 false true false false) := by
  obtain ⟨places, hx⟩ := reads os enc
  refine returnsInHanded_of_row (C := Tryz.checked) (s := OpenSpec.ofChange Rows.fnExactDoneChartSpec) Crd.own started (by kernel_rfl) Tryz.func4
    (witness_row_at (enc := enc) (C := Tryz.checked) false (Crd.laidOver (World.holding Tryz.prog os ⟨#[], #[], []⟩)) #[.slice Option.none 0 0, .agg #[.int .i64 0, .int .i64 0, .slice Option.none 0 0, .slice Option.none 0 0, .slice Option.none 0 0], .int .i64 0, .slice Option.none 0 0] rfl (by kernel_rfl) (by kernel_rfl) (by kernel_rfl)
      (OpenSpec.preRow_of_cond 8 hx (by kernel_rfl) (fun k hk => by cases hk) (by kernel_rfl) (laid_met os))) ?_
  intro W base args ds gs before hval hW _ _ _ hL _ _
  exact contract H enc W base args ds gs before hval hW hL
theorem said : Rows.FnExactDoneChartSaid :=
  OpenClaim.holds_of_cond 4 Tryz.f4 rfl rfl rfl rfl rfl rfl rfl ⟨rfl, rfl, rfl, rfl, rfl⟩ rfl rfl rfl rfl rfl (by kernel_rfl) Tryz.func4 (by kernel_rfl)
    (of_decide_eq_true (by kernel_rfl)) (by unfold Func.isWrapper; first | (rw [if_pos (by decide +kernel)]; kernel_rfl) | (rw [if_neg (by decide +kernel)]; exact ⟨rfl, rfl⟩))
    (fun os started H enc _ F => by rw [OpenClaim.pre_eq_preRow]; exact lifted os started H enc F)
set_option maxRecDepth 100000 in
theorem plain (f : FuncId) (fn : Func) (hf : Tryz.pinned.checked.prog.funcNamed "loop.example/g00343/laws.FnExactDoneChart" = some f) (hfn : Tryz.pinned.checked.prog.funcs[f]? = some fn) :
    true = Tryz.pinned.checked.prog.looks [] ∧ ∀ (j : Nat) t, fn.params[j]? = some t → Tryz.pinned.checked.prog.wantsStandIn t = false := by
  obtain rfl : f = 4 := Option.some.inj ((show Tryz.prog.funcNamed "loop.example/g00343/laws.FnExactDoneChart" = some 4 by kernel_rfl).symm.trans hf) |>.symm
  obtain rfl : fn = Tryz.f4 := (Option.some.inj (Tryz.func4.symm.trans hfn)).symm
  refine ⟨by kernel_rfl, fun j t ht => ?_⟩
  rw [Tryz.params4] at ht
  have hm : t = 22 ∨ t = 40 ∨ t = 2 ∨ t = 23 := by simpa using Array.mem_of_getElem? ht
  rcases hm with rfl | rfl | rfl | rfl
  · exact (show Tryz.prog.wantsStandIn 22 = false by kernel_rfl)
  · exact (show Tryz.prog.wantsStandIn 40 = false by kernel_rfl)
  · exact (show Tryz.prog.wantsStandIn 2 = false by kernel_rfl)
  · exact (show Tryz.prog.wantsStandIn 23 = false by kernel_rfl)
end KlD
theorem fnExactDoneChart_card : Rows.FnExactDoneChartCardSaid :=
  Claim7.holds_tied_plain_at .later [] _ _ _ _ KlD.said (fun _ h => by cases h) (by kernel_rfl) (fun _ h => by cases h) fnExactDoneChart_row_tie rfl ⟨rfl, rfl⟩ (by kernel_rfl) rfl KlD.plain (by kernel_rfl)
#print axioms fnExactDoneChart_card
end Go.Proofs.YtpgbjpfpgbjbeaaGreatDoor
