/- Whatever list of steps, chart and number are handed in, MailChart answers as the specification's MailChart does, in code and in the chart, whose rows own their memory, behind another call too, and the arguments read afterwards as before. Condition, tied to the program's own text: the table of rules holds what its initialiser lays. -/
import Derived.Test.YtpgbjpfpgbjbeaaGreatDoorJCh11
import Derived.Test.YtpgbjpfpgbjbeaaGreatDoorJCh12
import Derived.Test.YtpgbjpfpgbjbeaaGreatDoorJCh13
import Derived.Test.YtpgbjpfpgbjbeaaGreatDoorJCh15
import Derived.Test.YtpgbjpfpgbjbeaaGreatDoorJCh47
import Derived.Test.YtpgbjpfpgbjbeaaGreatDoorMKwF
import Derived.Deep.RegionHeld3
import Derived.Deep.Cut
namespace Go.Proofs.YtpgbjpfpgbjbeaaGreatDoor
open Go.ChangeShapes Go.WideShapes Go.ChangeAt Go.RowKit Go.Deep
open Go.ChangeMaps (open_string shut_string)
set_option linter.unusedVariables false
set_option linter.unusedSimpArgs false
namespace KlM
open Ex (hid)
open Pf St
open Ch (RunD)
open Kv (mailC mailR implMail IPost zeroR set6 below6 heap6)
open Kw (specMailChart SPost)
theorem blk_below {w w' : World} {b : Nat} {o : Obj} (h : w.heap[b]? = some o) (hb : Below w.heap.size w w') : w'.heap[b]? = some o := (hb.block b (Ch.blk_lt h)).trans h
theorem blk_amid {w w' : World} {b B C : Nat} {o : Obj} (h : w.heap[b]? = some o) (hb : Amid w w' B C) (ho : b < B ∨ C ≤ b) : w'.heap[b]? = some o := (hb.block b (Ch.blk_lt h) ho).trans h
theorem blk_within {w w' : World} {b B C : Nat} {o : Obj} (h : w.heap[b]? = some o) (hb : Cr.Within w w' B C) (ho : b < B ∨ C ≤ b) : w'.heap[b]? = some o := (hb.block b (Ch.blk_lt h) ho).trans h
theorem below_amid {D : Nat} {x w w' : World} {B C : Nat} (h : Below D x w) (hx : D ≤ x.heap.size) (ha : Amid w w' B C) (hB : D ≤ B) : Below D x w' := ⟨ha.os.trans h.os, ha.tape.trans h.tape, ha.output.trans h.output, Nat.le_trans h.size ha.size, fun b hb => (ha.block b (Nat.lt_of_lt_of_le (Nat.lt_of_lt_of_le hb hx) h.size) (.inl (Nat.lt_of_lt_of_le hb hB))).trans (h.block b hb)⟩
theorem below_within {D : Nat} {x w w' : World} {B C : Nat} (h : Below D x w) (hx : D ≤ x.heap.size) (ha : Cr.Within w w' B C) (hB : D ≤ B) : Below D x w' := ⟨ha.os.trans h.os, ha.tape.trans h.tape, ha.output.trans h.output, Nat.le_trans h.size ha.size, fun b hb => (ha.block b (Nat.lt_of_lt_of_le (Nat.lt_of_lt_of_le hb hx) h.size) (.inl (Nat.lt_of_lt_of_le hb hB))).trans (h.block b hb)⟩
theorem lensC {es : List StepD} (h : St.Small 1048576 es) : ∀ j, j < es.length → lenC es j ≤ 1048576 := fun j hj => by
  rw [lenC_eq hj]
  have := (h.at hj).2.1
  omega
theorem lensE {es : List StepD} (h : St.Small 1048576 es) : ∀ j, j < es.length → lenE es j ≤ 1048576 := fun j hj => by
  rw [lenE_eq hj]
  have := (h.at hj).2.2
  omega
theorem own_amid {w w' : World} {B C D : Nat} {v1 v2 v3 : Value} {r : RunD} (h : Cr.Own3 w D v1 v2 v3 r) (ha : Amid w w' B C) (hC : C ≤ D) : Cr.Own3 w' D v1 v2 v3 r := h.kept (fun b hb hb2 => ha.block b hb2 (.inr (by omega)))
/-- An answer in a variable. -/
structure Res (wB wx : World) (p : Nat) (s1 s2 s3 : Value) (cc : Int) (rr : RunD) : Prop where
  lo : wB.heap.size ≤ p
  blk : wx.heap[p]? = some (.cells #[.int .i64 cc, .int .i64 rr.status, .int .i64 rr.now, s1, s2, s3] 28)
  lst : Ch.At wx 0 s1 s2 s3 rr
  bel : Below wB.heap.size wB wx
theorem at6 {w : World} {B p : Nat} {v1 v2 v3 : Value} {r : RunD} (h : Ch.At w B v1 v2 v3 r) (hp : p < B) (a0 a1 a2 a3 a4 a5 : Value) : Ch.At ((((((w.setCell ⟨p, 0, none⟩ a0).setCell ⟨p, 1, none⟩ a1).setCell ⟨p, 2, none⟩ a2).setCell ⟨p, 3, none⟩ a3).setCell ⟨p, 4, none⟩ a4).setCell ⟨p, 5, none⟩ a5) B v1 v2 v3 r :=
  ⟨(((((h.vars.setBelow hp _).setBelow hp _).setBelow hp _).setBelow hp _).setBelow hp _).setBelow hp _, (((((h.marks.setBelow hp _).setBelow hp _).setBelow hp _).setBelow hp _).setBelow hp _).setBelow hp _, (((((h.dues.setBelow hp _).setBelow hp _).setBelow hp _).setBelow hp _).setBelow hp _).setBelow hp _⟩
/-- The variable was there ahead of the answer. -/
theorem res_a {wB q : World} {p B : Nat} {s1 s2 s3 : Value} {cc : Int} {rr : RunD} (hB : Below wB.heap.size wB q) (hp : wB.heap.size ≤ p) (hPA : q.heap[p]? = some (.cells #[.int .i64 0, .int .i64 0, .int .i64 0, .slice none 0 0, .slice none 0 0, .slice none 0 0] 28)) (hI : Ch.At q B s1 s2 s3 rr) (hl : p < B) :
    Res wB ((((((q.setCell ⟨p, 0, none⟩ (.int .i64 cc)).setCell ⟨p, 1, none⟩ (.int .i64 rr.status)).setCell ⟨p, 2, none⟩ (.int .i64 rr.now)).setCell ⟨p, 3, none⟩ s1).setCell ⟨p, 4, none⟩ s2).setCell ⟨p, 5, none⟩ s3) p s1 s2 s3 cc rr :=
  ⟨hp, set6 hPA _ _ _ _ _ _, (at6 hI hl _ _ _ _ _ _).mono (Nat.zero_le _), below6 hB hp _ _ _ _ _ _⟩
/-- The variable is newer than the answer. -/
theorem res_b {wB q0 q : World} {p : Nat} {s1 s2 s3 : Value} {cc : Int} {rr : RunD} (hB : Below wB.heap.size wB q) (hp : wB.heap.size ≤ p) (hPA : q.heap[p]? = some (.cells #[.int .i64 0, .int .i64 0, .int .i64 0, .slice none 0 0, .slice none 0 0, .slice none 0 0] 28)) (hI : Ch.At q0 0 s1 s2 s3 rr) (hq : Below q0.heap.size q0 q) (hl : q0.heap.size ≤ p) :
    Res wB ((((((q.setCell ⟨p, 0, none⟩ (.int .i64 cc)).setCell ⟨p, 1, none⟩ (.int .i64 rr.status)).setCell ⟨p, 2, none⟩ (.int .i64 rr.now)).setCell ⟨p, 3, none⟩ s1).setCell ⟨p, 4, none⟩ s2).setCell ⟨p, 5, none⟩ s3) p s1 s2 s3 cc rr :=
  ⟨hp, set6 hPA _ _ _ _ _ _, hI.below (below6 hq hl _ _ _ _ _ _), below6 hB hp _ _ _ _ _ _⟩
theorem new_below (w : World) (o : Obj) : Below w.heap.size w (w.alloc o) := (Below.refl _ w).alloc (Nat.le_refl _) _
theorem rr_small {n : Int} {w : World} {B : Nat} {v1 v2 v3 : Value} {r : RunD} (h : r.vars.length ≤ 1048576 ∧ r.marks.length ≤ 1048576 ∧ r.dues.length ≤ 1048576) : Ch.Small 1048576 r := ⟨by omega, by omega, by omega⟩
set_option maxRecDepth 100000 in
set_option maxHeartbeats 32000000 in
theorem walk (l : List StepD) (v : Value) (r : RunD) (v1 v2 v3 : Value) (x : Int) (w : World) (hl : l.length ≤ maxLen) (kl : St.Ok l) (kr : Ch.Ok r) (h1 : St.At w 0 v l) (h2 : Ch.At w 0 v1 v2 v3 r) (hr : Rul w) :
    Calls Tryz.prog 6 #[v, .agg #[.int .i64 r.status, .int .i64 r.now, v1, v2, v3], .int .i64 x] w fun e w' => e = .returned (.bool true) ∧ Below w.heap.size w w' := by
  have hgl := hr.lt
  obtain ⟨b0, k0, rfl⟩ := h1.slice
  obtain ⟨a1, c1, rfl⟩ := h2.vars.slice
  obtain ⟨a2, c2, rfl⟩ := h2.marks.slice
  obtain ⟨a3, c3, rfl⟩ := h2.dues.slice
  obtain ⟨w0, e0⟩ : ∃ w0, w0 = w.alloc (.cells #[.int .i64 r.status, .int .i64 r.now, .slice a1 r.vars.length c1, .slice a2 r.marks.length c2, .slice a3 r.dues.length c3] 40) := ⟨_, rfl⟩
  have hb0 : Below w.heap.size w w0 := by rw [e0]; exact new_below w _
  have hk0 : w0.heap[w.heap.size]? = some (.cells #[.int .i64 r.status, .int .i64 r.now, .slice a1 r.vars.length c1, .slice a2 r.marks.length c2, .slice a3 r.dues.length c3] 40) := by rw [e0]; exact Ch.new_blk _ _
  have HZ1 := hid (szS 0 l _ 1048576 w0 (by omega) (by omega) hl kl (h1.below hb0))
  have H1 := hid h1
  have H2 := hid h2
  have HKR := hid kr
  have HR := hid hr
  have HB0 := hid hb0
  clear h1 hl kl hr hb0 h2 kr
  go_enter Tryz.func6, Tryz.ntmps6
  go_wp2_with fail
  rw [← e0]
  clear e0
  refine HZ1.out.mono ?_
  rintro e w1 ⟨⟨r1, rfl, r1a, r1b, r1c⟩, hb1⟩
  have HB1 := hid (HB0.out.trans (hb1.mono HB0.out.size))
  have hk1 : w1.heap[w.heap.size]? = some (.cells #[.int .i64 r.status, .int .i64 r.now, .slice a1 r.vars.length c1, .slice a2 r.marks.length c2, .slice a3 r.dues.length c3] 40) := blk_below hk0 hb1
  clear hb1 HZ1 HB0 hk0
  by_cases q1 : r1 < 0
  · go_wp2
    go_ret
    exact ⟨rfl, HB1.out⟩
  have S1 := hid (r1c (by omega))
  clear r1c
  have d0 := Ch.blk_cell hk1 0
  have d1 := Ch.blk_cell hk1 1
  have d2 := Ch.blk_cell hk1 2
  have d3 := Ch.blk_cell hk1 3
  have d4 := Ch.blk_cell hk1 4
  have HZ2 := hid (Ch.sz 0 r _ _ _ r1 w1 (by omega) (by omega) HKR.out (H2.out.below HB1.out))
  have HK1 := hid hk1
  clear hk1
  go_wp2_with fail
  refine HZ2.out.mono ?_
  rintro e w2 ⟨⟨r2, rfl, r2a, r2b, r2c⟩, hb2⟩
  have HB2 := hid (HB1.out.trans (hb2.mono HB1.out.size))
  have HK2 : Hid (w2.heap[w.heap.size]? = some (.cells #[.int .i64 r.status, .int .i64 r.now, .slice a1 r.vars.length c1, .slice a2 r.marks.length c2, .slice a3 r.dues.length c3] 40)) := hid (blk_below HK1.out hb2)
  clear hb2 HK1 HZ2 d0 d1 d2 d3 d4 HB1
  by_cases q2 : r2 < 0
  · go_wp2
    go_ret
    exact ⟨rfl, HB2.out⟩
  have S2 := hid ((r2c (by omega)).mono r1b)
  clear r2c
  have hln := S1.out.1
  have HT1 := hid (fun w' (hb : Below w.heap.size w w') => toS 0 l _ w' S1.out (H1.out.below hb))
  have HT2 := hid (fun w' (hb : Below w.heap.size w w') => toS2 0 l _ w' S1.out (H1.out.below hb))
  have HC1 := hid (fun w' (hb : Below w.heap.size w w') => Ch.to1 0 r _ _ _ w' S2.out (H2.out.below hb))
  have HC2 := hid (fun w' (hb : Below w.heap.size w w') => Ch.to2 0 r _ _ _ w' S2.out (H2.out.below hb))
  have HIK := hid (fun u u1 u2 u3 w' (hb : Below w.heap.size w w') (hu : St.At w' 0 u l) (hc : Ch.At w' 0 u1 u2 u3 r) => implMail l r x u u1 u2 u3 w' S1.out S2.out hu hc (HR.out.below hb hgl))
  have HSK := hid (fun B u u1 u2 u3 w' (hu : St.At w' B u l) (hc : Ch.At w' 0 u1 u2 u3 r) => specMailChart B l r x u u1 u2 u3 w' S1.out S2.out hu hc)
  have hrs : (mailR l r x).vars.length ≤ 1048576 ∧ (mailR l r x).marks.length ≤ 1048576 ∧ (mailR l r x).dues.length ≤ 1048576 := Kv.mail_small
  clear H1 H2
  generalize hcc : mailC l r x = cc at *
  generalize hxx : mailR l r x = rr at *
  clear hcc hxx
  have SR : Hid (Ch.Small 1048576 rr) := hid ⟨by omega, by omega, by omega⟩
  clear hrs
  have HK2d : Hid (w2.drew.heap[w.heap.size]? = some (.cells #[.int .i64 r.status, .int .i64 r.now, .slice a1 r.vars.length c1, .slice a2 r.marks.length c2, .slice a3 r.dues.length c3] 40)) := hid HK2.out
  have HB2d := hid HB2.out.drew
  have HKB : Hid (w2.heap[w.heap.size]? = some (.cells #[.int .i64 r.status, .int .i64 r.now, .slice a1 r.vars.length c1, .slice a2 r.marks.length c2, .slice a3 r.dues.length c3] 40)) := hid HK2.out
  have HBs : Hid (Below w2.heap.size w2 w2.drew) := hid (Below.refl _ w2).drew
  go_wp2
  go_cut [8] from 26 (fun s8 wx => ∃ p m1 n1 m2 n2 m3 n3, s8 = .pointer (some ⟨p, 0, none⟩) ∧ Hid (Res w2 wx p (.slice m1 rr.vars.length n1) (.slice m2 rr.marks.length n2) (.slice m3 rr.dues.length n3) cc rr))
  case first =>
    refine wp_region_held_drew (S := fun wx => wx.heap[w.heap.size]? = some (.cells #[.int .i64 r.status, .int .i64 r.now, .slice a1 r.vars.length c1, .slice a2 r.marks.length c2, .slice a3 r.dues.length c3] 40)) (by kernel_rfl) HK2d.out (fun hHeld => ?_)
    refine wpAnyH_take (i := 0) (v := .slice b0 l.length k0) rfl (by kernel_rfl) (by kernel_rfl) (by kernel_rfl) (fun _ _ _ h => h) (Or.inl ⟨by kernel_rfl, by intro w hSw; (try dsimp only at hSw); go_simp⟩) (by assumption) ?_
    simp only [Act.put, List.setIfInBounds_toArray, List.set_cons_zero, List.set_cons_succ]
    refine wpAnyH_take (i := 2) (v := .agg #[.int .i64 r.status, .int .i64 r.now, .slice a1 r.vars.length c1, .slice a2 r.marks.length c2, .slice a3 r.dues.length c3]) rfl (by kernel_rfl) (by kernel_rfl) (by kernel_rfl) (fun _ _ _ h => h) (Or.inl ⟨by kernel_rfl, by intro w hSw; (try dsimp only at hSw); have m0 := Ch.blk_cell hSw 0; have m1 := Ch.blk_cell hSw 1; have m2 := Ch.blk_cell hSw 2; have m3 := Ch.blk_cell hSw 3; have m4 := Ch.blk_cell hSw 4; clear hSw; go_simp⟩) (by assumption) ?_
    simp only [Act.put, List.setIfInBounds_toArray, List.set_cons_zero, List.set_cons_succ]
    refine wpAnyH_take (i := 4) (v := .int .i64 x) rfl (by kernel_rfl) (by kernel_rfl) (by kernel_rfl) (fun _ _ _ h => h) (Or.inl ⟨by kernel_rfl, by intro w hSw; (try dsimp only at hSw); go_simp⟩) (by assumption) ?_
    simp only [Act.put, List.setIfInBounds_toArray, List.set_cons_zero, List.set_cons_succ]
    refine wpAnyH_ready (rs := [1, 6]) (by kernel_rfl) (by simp) ?_
    refine (AllReadyH.cons rfl (fun K hK => ?_) (AllReadyH.cons rfl (fun K hK => ?_) AllReadyH.nil))
    · go_simp
      go_at_call 9
      refine (HT1.out _ HB2d.out).mono ?_
      rintro e q1 ⟨u1, rfl, hu1, hb1⟩
      obtain ⟨x0, y0, rfl⟩ := hu1.slice
      have U1 := hid hu1
      clear hu1
      have BW1 := hid (HB2d.out.trans (hb1.mono HB2d.out.size))
      have BS1 := hid (HBs.out.trans (hb1.mono HBs.out.size))
      have hKK1 : q1.heap[w.heap.size]? = some (.cells #[.int .i64 r.status, .int .i64 r.now, .slice a1 r.vars.length c1, .slice a2 r.marks.length c2, .slice a3 r.dues.length c3] 40) := blk_below HKB.out BS1.out
      clear hb1
      go_wp2_with fail
      refine hK.out _ _ hKK1 (fun hHeld => ?_)
      clear hK K
      try simp only [Act.put, List.setIfInBounds_toArray, List.set_cons_zero, List.set_cons_succ]
      refine wpAnyH_ready (rs := [3, 6]) (by kernel_rfl) (by simp) ?_
      refine (AllReadyH.cons rfl (fun K hK => ?_) (AllReadyH.cons rfl (fun K hK => ?_) AllReadyH.nil))
      · go_simp
        go_at_call 21
        refine (HC1.out _ BW1.out).mono ?_
        rintro e q2 ⟨p1, p2, p3, rfl, hu2, hb2⟩
        obtain ⟨x1, y1, rfl⟩ := hu2.vars.slice
        obtain ⟨x2, y2, rfl⟩ := hu2.marks.slice
        obtain ⟨x3, y3, rfl⟩ := hu2.dues.slice
        have KK2 := hid (hu2.mono (Nat.zero_le _))
        clear hu2
        have BW2 := hid (BW1.out.trans (hb2.mono BW1.out.size))
        have BS2 := hid (BS1.out.trans (hb2.mono BS1.out.size))
        have Ux2 := hid (U1.out.below hb2)
        have hKK2 : q2.heap[w.heap.size]? = some (.cells #[.int .i64 r.status, .int .i64 r.now, .slice a1 r.vars.length c1, .slice a2 r.marks.length c2, .slice a3 r.dues.length c3] 40) := blk_below HKB.out BS2.out
        clear hb2
        go_wp2_with fail
        refine hK.out _ _ hKK2 (fun hHeld => ?_)
        clear hK K
        try simp only [Act.put, List.setIfInBounds_toArray, List.set_cons_zero, List.set_cons_succ]
        refine wpAnyH_ready (rs := [5, 6]) (by kernel_rfl) (by simp) ?_
        refine (AllReadyH.cons rfl (fun K hK => ?_) (AllReadyH.cons rfl (fun K hK => ?_) AllReadyH.nil))
        · go_simp
          go_at_call 27
          refine (HSK.out _ _ _ _ _ _ Ux2.out KK2.out).mono ?_
          rintro e q3 ⟨s1, s2, s3, rfl, hI, hb3⟩
          have II3 := hid hI
          obtain ⟨m1, n1, rfl⟩ := hI.vars.slice
          obtain ⟨m2, n2, rfl⟩ := hI.marks.slice
          obtain ⟨m3, n3, rfl⟩ := hI.dues.slice
          clear hI
          have BW3 := hid (BW2.out.trans (hb3.mono BW2.out.size))
          have BS3 := hid (BS2.out.trans (hb3.mono BS2.out.size))
          have hKK3 : q3.heap[w.heap.size]? = some (.cells #[.int .i64 r.status, .int .i64 r.now, .slice a1 r.vars.length c1, .slice a2 r.marks.length c2, .slice a3 r.dues.length c3] 40) := blk_below HKB.out BS3.out
          clear hb3
          go_wp2_with fail
          refine hK.out _ _ hKK3 (fun hHeld => ?_)
          clear hK K
          try simp only [Act.put, List.setIfInBounds_toArray, List.set_cons_zero, List.set_cons_succ]
          refine wpAnyH_ready (rs := [6]) (by kernel_rfl) (by simp) ?_
          refine (AllReadyH.cons rfl (fun K hK => ?_) AllReadyH.nil)
          go_simp
          obtain ⟨q4, eq4⟩ : ∃ q4, q4 = (q3.alloc (.cells #[.int .i64 0, .int .i64 0, .int .i64 0, .slice none 0 0, .slice none 0 0, .slice none 0 0] 28)) := ⟨_, rfl⟩
          have hb4 : Below q3.heap.size q3 q4 := by rw [eq4]; exact new_below q3 _
          have PA4 : Hid (q4.heap[q3.heap.size]? = some (.cells #[.int .i64 0, .int .i64 0, .int .i64 0, .slice none 0 0, .slice none 0 0, .slice none 0 0] 28)) := hid (by rw [eq4]; exact Ch.new_blk _ _)
          rw [← eq4]
          clear eq4
          have LP4 : Hid (w2.heap.size ≤ q3.heap.size) := hid BS3.out.size
          have BW4 := hid (BW3.out.trans (hb4.mono BW3.out.size))
          have BS4 := hid (BS3.out.trans (hb4.mono BS3.out.size))
          have BF4 := hid hb4
          have LF4 : Hid (q3.heap.size ≤ q3.heap.size) := hid (Nat.le_refl _)
          have hKK4 : q4.heap[w.heap.size]? = some (.cells #[.int .i64 r.status, .int .i64 r.now, .slice a1 r.vars.length c1, .slice a2 r.marks.length c2, .slice a3 r.dues.length c3] 40) := blk_below HKB.out BS4.out
          clear hb4
          refine hK.out _ _ hKK4 (fun hHeld => ?_)
          clear hK K
          try simp only [Act.put, List.setIfInBounds_toArray, List.set_cons_zero, List.set_cons_succ]
          have t0 := Ch.blk_free PA4.out 0
          have t1 := Ch.blk_free PA4.out 1
          have t2 := Ch.blk_free PA4.out 2
          have t3 := Ch.blk_free PA4.out 3
          have t4 := Ch.blk_free PA4.out 4
          have t5 := Ch.blk_free PA4.out 5
          have z0 : q4.cell? ⟨q3.heap.size, 0, none⟩ = some (.int .i64 0) := Ch.blk_cell PA4.out 0
          have z1 : q4.cell? ⟨q3.heap.size, 1, none⟩ = some (.int .i64 0) := Ch.blk_cell PA4.out 1
          have z2 : q4.cell? ⟨q3.heap.size, 2, none⟩ = some (.int .i64 0) := Ch.blk_cell PA4.out 2
          have z3 : q4.cell? ⟨q3.heap.size, 3, none⟩ = some (.slice none 0 0) := Ch.blk_cell PA4.out 3
          have z4 : q4.cell? ⟨q3.heap.size, 4, none⟩ = some (.slice none 0 0) := Ch.blk_cell PA4.out 4
          have z5 : q4.cell? ⟨q3.heap.size, 5, none⟩ = some (.slice none 0 0) := Ch.blk_cell PA4.out 5
          have HRS := hid (res_b (cc := cc) BS4.out LP4.out PA4.out (II3.out.mono (Nat.zero_le _)) BF4.out LF4.out)
          have hKS : ((((((q4.setCell ⟨q3.heap.size, 0, none⟩ (.int .i64 cc)).setCell ⟨q3.heap.size, 1, none⟩ (.int .i64 rr.status)).setCell ⟨q3.heap.size, 2, none⟩ (.int .i64 rr.now)).setCell ⟨q3.heap.size, 3, none⟩ (.slice m1 rr.vars.length n1)).setCell ⟨q3.heap.size, 4, none⟩ (.slice m2 rr.marks.length n2)).setCell ⟨q3.heap.size, 5, none⟩ (.slice m3 rr.dues.length n3)).heap[w.heap.size]? = some (.cells #[.int .i64 r.status, .int .i64 r.now, .slice a1 r.vars.length c1, .slice a2 r.marks.length c2, .slice a3 r.dues.length c3] 40) := blk_below HKB.out HRS.out.bel
          refine wpAnyH_ready (rs := [7]) (by kernel_rfl) (by simp) ?_
          refine AllReadyH.cons rfl (fun K hK => ?_) AllReadyH.nil
          go_simp
          refine hK.out _ _ hKS (fun hHeld => ?_)
          clear hK K
          try simp only [Act.put, List.setIfInBounds_toArray, List.set_cons_zero, List.set_cons_succ]
          refine wpAnyH_done (by kernel_rfl) ?_ _
          go_wp2_with fail
          go_meet
          exact ⟨_, _, _, _, _, _, _, rfl, HRS⟩
        · go_simp
          obtain ⟨q3, eq3⟩ : ∃ q3, q3 = (q2.alloc (.cells #[.int .i64 0, .int .i64 0, .int .i64 0, .slice none 0 0, .slice none 0 0, .slice none 0 0] 28)) := ⟨_, rfl⟩
          have hb3 : Below q2.heap.size q2 q3 := by rw [eq3]; exact new_below q2 _
          have PA3 : Hid (q3.heap[q2.heap.size]? = some (.cells #[.int .i64 0, .int .i64 0, .int .i64 0, .slice none 0 0, .slice none 0 0, .slice none 0 0] 28)) := hid (by rw [eq3]; exact Ch.new_blk _ _)
          rw [← eq3]
          clear eq3
          have LP3 : Hid (w2.heap.size ≤ q2.heap.size) := hid BS2.out.size
          have BW3 := hid (BW2.out.trans (hb3.mono BW2.out.size))
          have BS3 := hid (BS2.out.trans (hb3.mono BS2.out.size))
          have Ux3 := hid (Ux2.out.below hb3)
          have KKx3 := hid (KK2.out.below hb3)
          have hKK3 : q3.heap[w.heap.size]? = some (.cells #[.int .i64 r.status, .int .i64 r.now, .slice a1 r.vars.length c1, .slice a2 r.marks.length c2, .slice a3 r.dues.length c3] 40) := blk_below HKB.out BS3.out
          clear hb3
          refine hK.out _ _ hKK3 (fun hHeld => ?_)
          clear hK K
          try simp only [Act.put, List.setIfInBounds_toArray, List.set_cons_zero, List.set_cons_succ]
          refine wpAnyH_ready (rs := [5]) (by kernel_rfl) (by simp) ?_
          refine (AllReadyH.cons rfl (fun K hK => ?_) AllReadyH.nil)
          go_simp
          go_at_call 27
          refine (HSK.out _ _ _ _ _ _ Ux3.out KKx3.out).mono ?_
          rintro e q4 ⟨s1, s2, s3, rfl, hI, hb4⟩
          have II4 := hid hI
          obtain ⟨m1, n1, rfl⟩ := hI.vars.slice
          obtain ⟨m2, n2, rfl⟩ := hI.marks.slice
          obtain ⟨m3, n3, rfl⟩ := hI.dues.slice
          clear hI
          have BW4 := hid (BW3.out.trans (hb4.mono BW3.out.size))
          have BS4 := hid (BS3.out.trans (hb4.mono BS3.out.size))
          have PX4 : Hid (q4.heap[q2.heap.size]? = some (.cells #[.int .i64 0, .int .i64 0, .int .i64 0, .slice none 0 0, .slice none 0 0, .slice none 0 0] 28)) := hid (blk_below PA3.out hb4)
          have hKK4 : q4.heap[w.heap.size]? = some (.cells #[.int .i64 r.status, .int .i64 r.now, .slice a1 r.vars.length c1, .slice a2 r.marks.length c2, .slice a3 r.dues.length c3] 40) := blk_below HKB.out BS4.out
          clear hb4
          go_wp2_with fail
          refine hK.out _ _ hKK4 (fun hHeld => ?_)
          clear hK K
          try simp only [Act.put, List.setIfInBounds_toArray, List.set_cons_zero, List.set_cons_succ]
          have t0 := Ch.blk_free PX4.out 0
          have t1 := Ch.blk_free PX4.out 1
          have t2 := Ch.blk_free PX4.out 2
          have t3 := Ch.blk_free PX4.out 3
          have t4 := Ch.blk_free PX4.out 4
          have t5 := Ch.blk_free PX4.out 5
          have z0 : q4.cell? ⟨q2.heap.size, 0, none⟩ = some (.int .i64 0) := Ch.blk_cell PX4.out 0
          have z1 : q4.cell? ⟨q2.heap.size, 1, none⟩ = some (.int .i64 0) := Ch.blk_cell PX4.out 1
          have z2 : q4.cell? ⟨q2.heap.size, 2, none⟩ = some (.int .i64 0) := Ch.blk_cell PX4.out 2
          have z3 : q4.cell? ⟨q2.heap.size, 3, none⟩ = some (.slice none 0 0) := Ch.blk_cell PX4.out 3
          have z4 : q4.cell? ⟨q2.heap.size, 4, none⟩ = some (.slice none 0 0) := Ch.blk_cell PX4.out 4
          have z5 : q4.cell? ⟨q2.heap.size, 5, none⟩ = some (.slice none 0 0) := Ch.blk_cell PX4.out 5
          have hpl : q2.heap.size < q3.heap.size := Ch.blk_lt PA3.out
          have HRS := hid (res_a (cc := cc) BS4.out LP3.out PX4.out II4.out hpl)
          have hKS : ((((((q4.setCell ⟨q2.heap.size, 0, none⟩ (.int .i64 cc)).setCell ⟨q2.heap.size, 1, none⟩ (.int .i64 rr.status)).setCell ⟨q2.heap.size, 2, none⟩ (.int .i64 rr.now)).setCell ⟨q2.heap.size, 3, none⟩ (.slice m1 rr.vars.length n1)).setCell ⟨q2.heap.size, 4, none⟩ (.slice m2 rr.marks.length n2)).setCell ⟨q2.heap.size, 5, none⟩ (.slice m3 rr.dues.length n3)).heap[w.heap.size]? = some (.cells #[.int .i64 r.status, .int .i64 r.now, .slice a1 r.vars.length c1, .slice a2 r.marks.length c2, .slice a3 r.dues.length c3] 40) := blk_below HKB.out HRS.out.bel
          refine wpAnyH_ready (rs := [7]) (by kernel_rfl) (by simp) ?_
          refine AllReadyH.cons rfl (fun K hK => ?_) AllReadyH.nil
          go_simp
          refine hK.out _ _ hKS (fun hHeld => ?_)
          clear hK K
          try simp only [Act.put, List.setIfInBounds_toArray, List.set_cons_zero, List.set_cons_succ]
          refine wpAnyH_done (by kernel_rfl) ?_ _
          go_wp2_with fail
          go_meet
          exact ⟨_, _, _, _, _, _, _, rfl, HRS⟩
      · go_simp
        obtain ⟨q2, eq2⟩ : ∃ q2, q2 = (q1.alloc (.cells #[.int .i64 0, .int .i64 0, .int .i64 0, .slice none 0 0, .slice none 0 0, .slice none 0 0] 28)) := ⟨_, rfl⟩
        have hb2 : Below q1.heap.size q1 q2 := by rw [eq2]; exact new_below q1 _
        have PA2 : Hid (q2.heap[q1.heap.size]? = some (.cells #[.int .i64 0, .int .i64 0, .int .i64 0, .slice none 0 0, .slice none 0 0, .slice none 0 0] 28)) := hid (by rw [eq2]; exact Ch.new_blk _ _)
        rw [← eq2]
        clear eq2
        have LP2 : Hid (w2.heap.size ≤ q1.heap.size) := hid BS1.out.size
        have BW2 := hid (BW1.out.trans (hb2.mono BW1.out.size))
        have BS2 := hid (BS1.out.trans (hb2.mono BS1.out.size))
        have Ux2 := hid (U1.out.below hb2)
        have hKK2 : q2.heap[w.heap.size]? = some (.cells #[.int .i64 r.status, .int .i64 r.now, .slice a1 r.vars.length c1, .slice a2 r.marks.length c2, .slice a3 r.dues.length c3] 40) := blk_below HKB.out BS2.out
        clear hb2
        refine hK.out _ _ hKK2 (fun hHeld => ?_)
        clear hK K
        try simp only [Act.put, List.setIfInBounds_toArray, List.set_cons_zero, List.set_cons_succ]
        refine wpAnyH_ready (rs := [3]) (by kernel_rfl) (by simp) ?_
        refine (AllReadyH.cons rfl (fun K hK => ?_) AllReadyH.nil)
        go_simp
        go_at_call 21
        refine (HC1.out _ BW2.out).mono ?_
        rintro e q3 ⟨p1, p2, p3, rfl, hu2, hb3⟩
        obtain ⟨x1, y1, rfl⟩ := hu2.vars.slice
        obtain ⟨x2, y2, rfl⟩ := hu2.marks.slice
        obtain ⟨x3, y3, rfl⟩ := hu2.dues.slice
        have KK3 := hid (hu2.mono (Nat.zero_le _))
        clear hu2
        have BW3 := hid (BW2.out.trans (hb3.mono BW2.out.size))
        have BS3 := hid (BS2.out.trans (hb3.mono BS2.out.size))
        have Ux3 := hid (Ux2.out.below hb3)
        have PX3 : Hid (q3.heap[q1.heap.size]? = some (.cells #[.int .i64 0, .int .i64 0, .int .i64 0, .slice none 0 0, .slice none 0 0, .slice none 0 0] 28)) := hid (blk_below PA2.out hb3)
        have hKK3 : q3.heap[w.heap.size]? = some (.cells #[.int .i64 r.status, .int .i64 r.now, .slice a1 r.vars.length c1, .slice a2 r.marks.length c2, .slice a3 r.dues.length c3] 40) := blk_below HKB.out BS3.out
        clear hb3
        go_wp2_with fail
        refine hK.out _ _ hKK3 (fun hHeld => ?_)
        clear hK K
        try simp only [Act.put, List.setIfInBounds_toArray, List.set_cons_zero, List.set_cons_succ]
        refine wpAnyH_ready (rs := [5]) (by kernel_rfl) (by simp) ?_
        refine (AllReadyH.cons rfl (fun K hK => ?_) AllReadyH.nil)
        go_simp
        go_at_call 27
        refine (HSK.out _ _ _ _ _ _ Ux3.out KK3.out).mono ?_
        rintro e q4 ⟨s1, s2, s3, rfl, hI, hb4⟩
        have II4 := hid hI
        obtain ⟨m1, n1, rfl⟩ := hI.vars.slice
        obtain ⟨m2, n2, rfl⟩ := hI.marks.slice
        obtain ⟨m3, n3, rfl⟩ := hI.dues.slice
        clear hI
        have BW4 := hid (BW3.out.trans (hb4.mono BW3.out.size))
        have BS4 := hid (BS3.out.trans (hb4.mono BS3.out.size))
        have PX4 : Hid (q4.heap[q1.heap.size]? = some (.cells #[.int .i64 0, .int .i64 0, .int .i64 0, .slice none 0 0, .slice none 0 0, .slice none 0 0] 28)) := hid (blk_below PX3.out hb4)
        have hKK4 : q4.heap[w.heap.size]? = some (.cells #[.int .i64 r.status, .int .i64 r.now, .slice a1 r.vars.length c1, .slice a2 r.marks.length c2, .slice a3 r.dues.length c3] 40) := blk_below HKB.out BS4.out
        clear hb4
        go_wp2_with fail
        refine hK.out _ _ hKK4 (fun hHeld => ?_)
        clear hK K
        try simp only [Act.put, List.setIfInBounds_toArray, List.set_cons_zero, List.set_cons_succ]
        have t0 := Ch.blk_free PX4.out 0
        have t1 := Ch.blk_free PX4.out 1
        have t2 := Ch.blk_free PX4.out 2
        have t3 := Ch.blk_free PX4.out 3
        have t4 := Ch.blk_free PX4.out 4
        have t5 := Ch.blk_free PX4.out 5
        have z0 : q4.cell? ⟨q1.heap.size, 0, none⟩ = some (.int .i64 0) := Ch.blk_cell PX4.out 0
        have z1 : q4.cell? ⟨q1.heap.size, 1, none⟩ = some (.int .i64 0) := Ch.blk_cell PX4.out 1
        have z2 : q4.cell? ⟨q1.heap.size, 2, none⟩ = some (.int .i64 0) := Ch.blk_cell PX4.out 2
        have z3 : q4.cell? ⟨q1.heap.size, 3, none⟩ = some (.slice none 0 0) := Ch.blk_cell PX4.out 3
        have z4 : q4.cell? ⟨q1.heap.size, 4, none⟩ = some (.slice none 0 0) := Ch.blk_cell PX4.out 4
        have z5 : q4.cell? ⟨q1.heap.size, 5, none⟩ = some (.slice none 0 0) := Ch.blk_cell PX4.out 5
        have hpl : q1.heap.size < q3.heap.size := Ch.blk_lt PX3.out
        have HRS := hid (res_a (cc := cc) BS4.out LP2.out PX4.out II4.out hpl)
        have hKS : ((((((q4.setCell ⟨q1.heap.size, 0, none⟩ (.int .i64 cc)).setCell ⟨q1.heap.size, 1, none⟩ (.int .i64 rr.status)).setCell ⟨q1.heap.size, 2, none⟩ (.int .i64 rr.now)).setCell ⟨q1.heap.size, 3, none⟩ (.slice m1 rr.vars.length n1)).setCell ⟨q1.heap.size, 4, none⟩ (.slice m2 rr.marks.length n2)).setCell ⟨q1.heap.size, 5, none⟩ (.slice m3 rr.dues.length n3)).heap[w.heap.size]? = some (.cells #[.int .i64 r.status, .int .i64 r.now, .slice a1 r.vars.length c1, .slice a2 r.marks.length c2, .slice a3 r.dues.length c3] 40) := blk_below HKB.out HRS.out.bel
        refine wpAnyH_ready (rs := [7]) (by kernel_rfl) (by simp) ?_
        refine AllReadyH.cons rfl (fun K hK => ?_) AllReadyH.nil
        go_simp
        refine hK.out _ _ hKS (fun hHeld => ?_)
        clear hK K
        try simp only [Act.put, List.setIfInBounds_toArray, List.set_cons_zero, List.set_cons_succ]
        refine wpAnyH_done (by kernel_rfl) ?_ _
        go_wp2_with fail
        go_meet
        exact ⟨_, _, _, _, _, _, _, rfl, HRS⟩
    · go_simp
      obtain ⟨q1, eq1⟩ : ∃ q1, q1 = (w2.alloc (.cells #[.int .i64 0, .int .i64 0, .int .i64 0, .slice none 0 0, .slice none 0 0, .slice none 0 0] 28)).drew := ⟨_, rfl⟩
      have hb1 : Below w2.drew.heap.size w2.drew q1 := by rw [eq1]; exact new_below w2.drew _
      have PA1 : Hid (q1.heap[w2.heap.size]? = some (.cells #[.int .i64 0, .int .i64 0, .int .i64 0, .slice none 0 0, .slice none 0 0, .slice none 0 0] 28)) := hid (by rw [eq1]; exact Ch.new_blk _ _)
      rw [← eq1]
      clear eq1
      have LP1 : Hid (w2.heap.size ≤ w2.heap.size) := hid HBs.out.size
      have BW1 := hid (HB2d.out.trans (hb1.mono HB2d.out.size))
      have BS1 := hid (HBs.out.trans (hb1.mono HBs.out.size))
      have hKK1 : q1.heap[w.heap.size]? = some (.cells #[.int .i64 r.status, .int .i64 r.now, .slice a1 r.vars.length c1, .slice a2 r.marks.length c2, .slice a3 r.dues.length c3] 40) := blk_below HKB.out BS1.out
      clear hb1
      refine hK.out _ _ hKK1 (fun hHeld => ?_)
      clear hK K
      try simp only [Act.put, List.setIfInBounds_toArray, List.set_cons_zero, List.set_cons_succ]
      refine wpAnyH_ready (rs := [1]) (by kernel_rfl) (by simp) ?_
      refine (AllReadyH.cons rfl (fun K hK => ?_) AllReadyH.nil)
      go_simp
      go_at_call 9
      refine (HT1.out _ BW1.out).mono ?_
      rintro e q2 ⟨u1, rfl, hu1, hb2⟩
      obtain ⟨x0, y0, rfl⟩ := hu1.slice
      have U2 := hid hu1
      clear hu1
      have BW2 := hid (BW1.out.trans (hb2.mono BW1.out.size))
      have BS2 := hid (BS1.out.trans (hb2.mono BS1.out.size))
      have PX2 : Hid (q2.heap[w2.heap.size]? = some (.cells #[.int .i64 0, .int .i64 0, .int .i64 0, .slice none 0 0, .slice none 0 0, .slice none 0 0] 28)) := hid (blk_below PA1.out hb2)
      have hKK2 : q2.heap[w.heap.size]? = some (.cells #[.int .i64 r.status, .int .i64 r.now, .slice a1 r.vars.length c1, .slice a2 r.marks.length c2, .slice a3 r.dues.length c3] 40) := blk_below HKB.out BS2.out
      clear hb2
      go_wp2_with fail
      refine hK.out _ _ hKK2 (fun hHeld => ?_)
      clear hK K
      try simp only [Act.put, List.setIfInBounds_toArray, List.set_cons_zero, List.set_cons_succ]
      refine wpAnyH_ready (rs := [3]) (by kernel_rfl) (by simp) ?_
      refine (AllReadyH.cons rfl (fun K hK => ?_) AllReadyH.nil)
      go_simp
      go_at_call 21
      refine (HC1.out _ BW2.out).mono ?_
      rintro e q3 ⟨p1, p2, p3, rfl, hu2, hb3⟩
      obtain ⟨x1, y1, rfl⟩ := hu2.vars.slice
      obtain ⟨x2, y2, rfl⟩ := hu2.marks.slice
      obtain ⟨x3, y3, rfl⟩ := hu2.dues.slice
      have KK3 := hid (hu2.mono (Nat.zero_le _))
      clear hu2
      have BW3 := hid (BW2.out.trans (hb3.mono BW2.out.size))
      have BS3 := hid (BS2.out.trans (hb3.mono BS2.out.size))
      have Ux3 := hid (U2.out.below hb3)
      have PX3 : Hid (q3.heap[w2.heap.size]? = some (.cells #[.int .i64 0, .int .i64 0, .int .i64 0, .slice none 0 0, .slice none 0 0, .slice none 0 0] 28)) := hid (blk_below PX2.out hb3)
      have hKK3 : q3.heap[w.heap.size]? = some (.cells #[.int .i64 r.status, .int .i64 r.now, .slice a1 r.vars.length c1, .slice a2 r.marks.length c2, .slice a3 r.dues.length c3] 40) := blk_below HKB.out BS3.out
      clear hb3
      go_wp2_with fail
      refine hK.out _ _ hKK3 (fun hHeld => ?_)
      clear hK K
      try simp only [Act.put, List.setIfInBounds_toArray, List.set_cons_zero, List.set_cons_succ]
      refine wpAnyH_ready (rs := [5]) (by kernel_rfl) (by simp) ?_
      refine (AllReadyH.cons rfl (fun K hK => ?_) AllReadyH.nil)
      go_simp
      go_at_call 27
      refine (HSK.out _ _ _ _ _ _ Ux3.out KK3.out).mono ?_
      rintro e q4 ⟨s1, s2, s3, rfl, hI, hb4⟩
      have II4 := hid hI
      obtain ⟨m1, n1, rfl⟩ := hI.vars.slice
      obtain ⟨m2, n2, rfl⟩ := hI.marks.slice
      obtain ⟨m3, n3, rfl⟩ := hI.dues.slice
      clear hI
      have BW4 := hid (BW3.out.trans (hb4.mono BW3.out.size))
      have BS4 := hid (BS3.out.trans (hb4.mono BS3.out.size))
      have PX4 : Hid (q4.heap[w2.heap.size]? = some (.cells #[.int .i64 0, .int .i64 0, .int .i64 0, .slice none 0 0, .slice none 0 0, .slice none 0 0] 28)) := hid (blk_below PX3.out hb4)
      have hKK4 : q4.heap[w.heap.size]? = some (.cells #[.int .i64 r.status, .int .i64 r.now, .slice a1 r.vars.length c1, .slice a2 r.marks.length c2, .slice a3 r.dues.length c3] 40) := blk_below HKB.out BS4.out
      clear hb4
      go_wp2_with fail
      refine hK.out _ _ hKK4 (fun hHeld => ?_)
      clear hK K
      try simp only [Act.put, List.setIfInBounds_toArray, List.set_cons_zero, List.set_cons_succ]
      have t0 := Ch.blk_free PX4.out 0
      have t1 := Ch.blk_free PX4.out 1
      have t2 := Ch.blk_free PX4.out 2
      have t3 := Ch.blk_free PX4.out 3
      have t4 := Ch.blk_free PX4.out 4
      have t5 := Ch.blk_free PX4.out 5
      have z0 : q4.cell? ⟨w2.heap.size, 0, none⟩ = some (.int .i64 0) := Ch.blk_cell PX4.out 0
      have z1 : q4.cell? ⟨w2.heap.size, 1, none⟩ = some (.int .i64 0) := Ch.blk_cell PX4.out 1
      have z2 : q4.cell? ⟨w2.heap.size, 2, none⟩ = some (.int .i64 0) := Ch.blk_cell PX4.out 2
      have z3 : q4.cell? ⟨w2.heap.size, 3, none⟩ = some (.slice none 0 0) := Ch.blk_cell PX4.out 3
      have z4 : q4.cell? ⟨w2.heap.size, 4, none⟩ = some (.slice none 0 0) := Ch.blk_cell PX4.out 4
      have z5 : q4.cell? ⟨w2.heap.size, 5, none⟩ = some (.slice none 0 0) := Ch.blk_cell PX4.out 5
      have hpl : w2.heap.size < q3.heap.size := Ch.blk_lt PX3.out
      have HRS := hid (res_a (cc := cc) BS4.out LP1.out PX4.out II4.out hpl)
      have hKS : ((((((q4.setCell ⟨w2.heap.size, 0, none⟩ (.int .i64 cc)).setCell ⟨w2.heap.size, 1, none⟩ (.int .i64 rr.status)).setCell ⟨w2.heap.size, 2, none⟩ (.int .i64 rr.now)).setCell ⟨w2.heap.size, 3, none⟩ (.slice m1 rr.vars.length n1)).setCell ⟨w2.heap.size, 4, none⟩ (.slice m2 rr.marks.length n2)).setCell ⟨w2.heap.size, 5, none⟩ (.slice m3 rr.dues.length n3)).heap[w.heap.size]? = some (.cells #[.int .i64 r.status, .int .i64 r.now, .slice a1 r.vars.length c1, .slice a2 r.marks.length c2, .slice a3 r.dues.length c3] 40) := blk_below HKB.out HRS.out.bel
      refine wpAnyH_ready (rs := [7]) (by kernel_rfl) (by simp) ?_
      refine AllReadyH.cons rfl (fun K hK => ?_) AllReadyH.nil
      go_simp
      refine hK.out _ _ hKS (fun hHeld => ?_)
      clear hK K
      try simp only [Act.put, List.setIfInBounds_toArray, List.set_cons_zero, List.set_cons_succ]
      refine wpAnyH_done (by kernel_rfl) ?_ _
      go_wp2_with fail
      go_meet
      exact ⟨_, _, _, _, _, _, _, rfl, HRS⟩
  case rest =>
    obtain ⟨p, m1, n1, m2, n2, m3, n3, rfl, HRS⟩ := hcut
    have B3 := HB2.out.trans (HRS.out.bel.mono HB2.out.size)
    have PP := hid HRS.out.blk
    have I0 := hid HRS.out.lst
    have HKc : Hid (wc.heap[w.heap.size]? = some (.cells #[.int .i64 r.status, .int .i64 r.now, .slice a1 r.vars.length c1, .slice a2 r.marks.length c2, .slice a3 r.dues.length c3] 40)) := hid (blk_below HKB.out HRS.out.bel)
    have hpl := Ch.blk_lt PP.out
    clear HRS HB2 HSK HKB HK2d HB2d HK2
    go_wp2_with fail
    refine (HT2.out _ B3).mono ?_
    rintro e w5 ⟨u5, rfl, hu5, hw5, hb5⟩
    obtain ⟨x0, y0, rfl⟩ := hu5.slice
    have B5 := B3.trans (hb5.mono B3.size)
    have C5 := hid hb5
    have U5 := hid (hu5.mono (Nat.zero_le _))
    have W5 := hid hw5
    have l5 := hb5.size
    clear hu5 hw5 hb5
    have HK5 := blk_below HKc.out C5.out
    have d0 := Ch.blk_cell HK5 0
    have d1 := Ch.blk_cell HK5 1
    have d2 := Ch.blk_cell HK5 2
    have d3 := Ch.blk_cell HK5 3
    have d4 := Ch.blk_cell HK5 4
    clear HK5
    go_wp2_with fail
    refine (HC2.out _ B5).mono ?_
    rintro e w6 ⟨p1, p2, p3, rfl, hu6, hb6⟩
    obtain ⟨x1, y1, rfl⟩ := hu6.vars.slice
    obtain ⟨x2, y2, rfl⟩ := hu6.marks.slice
    obtain ⟨x3, y3, rfl⟩ := hu6.dues.slice
    obtain ⟨w7, e7⟩ : ∃ w7, w7 = w6.alloc (.cells #[.int .i64 r.status, .int .i64 r.now, .slice x1 r.vars.length y1, .slice x2 r.marks.length y2, .slice x3 r.dues.length y3] 26) := ⟨_, rfl⟩
    have hx7 : Below w6.heap.size w6 w7 := by rw [e7]; exact new_below w6 _
    have hb7 : Below w5.heap.size w5 w7 := hb6.trans (hx7.mono hb6.size)
    obtain ⟨X, eX⟩ : ∃ X, X = w6.heap.size := ⟨_, rfl⟩
    have X7 : Hid (w7.heap[X]? = some (.cells #[.int .i64 r.status, .int .i64 r.now, .slice x1 r.vars.length y1, .slice x2 r.marks.length y2, .slice x3 r.dues.length y3] 26)) := hid (by rw [e7, eX]; exact Ch.new_blk _ _)
    have l6 := hb6.size
    have n7 : w6.heap.size < w7.heap.size := by rw [e7]; simp
    have LX := hid eX
    have B7 := B5.trans (hb7.mono B5.size)
    have C7 := hid (C5.out.trans (hb7.mono C5.out.size))
    have U7 := hid (U5.out.below hb7)
    have K7 := hid ((hu6.at'.mono (Nat.zero_le _)).below hx7)
    have W7 := hid (W5.out.below hb7)
    have R7 := hid (hu6.rows.below hx7)
    have E7 := hid e7
    clear hu6 hb6 hx7 hb7 U5 W5 C5 d0 d1 d2 d3 d4 eX e7
    have HIM := hid (HIK.out _ _ _ _ w7 B7 U7.out K7.out)
    go_wp2_with fail
    rw [← E7.out, ← LX.out]
    clear E7
    refine HIM.out.mono ?_
    rintro e w9 ⟨g1, g2, g3, rfl, hO9, hb9⟩
    obtain ⟨h1, i1, rfl⟩ := Ints.owns_slice hO9.vars
    obtain ⟨h2, i2, rfl⟩ := Ints.owns_slice hO9.marks
    obtain ⟨h3, i3, rfl⟩ := Ints.owns_slice hO9.dues
    obtain ⟨wa, ea⟩ : ∃ wa, wa = w9.alloc (.cells #[.int .i64 cc, .int .i64 rr.status, .int .i64 rr.now, .slice h1 rr.vars.length i1, .slice h2 rr.marks.length i2, .slice h3 rr.dues.length i3] 28) := ⟨_, rfl⟩
    have hxa : Below w9.heap.size w9 wa := by rw [ea]; exact new_below w9 _
    have hba : Below w7.heap.size w7 wa := hb9.trans (hxa.mono hb9.size)
    obtain ⟨G, eG⟩ : ∃ G, G = w9.heap.size := ⟨_, rfl⟩
    have Ga : Hid (wa.heap[G]? = some (.cells #[.int .i64 cc, .int .i64 rr.status, .int .i64 rr.now, .slice h1 rr.vars.length i1, .slice h2 rr.marks.length i2, .slice h3 rr.dues.length i3] 28)) := hid (by rw [ea, eG]; exact Ch.new_blk _ _)
    have na : w9.heap.size < wa.heap.size := by rw [ea]; simp
    have l9 := hb9.size
    have LG := hid eG
    have HIN : Hid (∀ b, (Value.slice h1 rr.vars.length i1).ownBlock = some b ∨ (Value.slice h2 rr.marks.length i2).ownBlock = some b ∨ (Value.slice h3 rr.dues.length i3).ownBlock = some b → b < G) := hid (fun b e => by rw [eG]; rcases e with e | e | e; exact (Cr.own_in hO9.vars e).2; exact (Cr.own_in hO9.marks e).2; exact (Cr.own_in hO9.dues e).2)
    have Oa := hid (hO9.below hxa)
    have Ba := B7.trans (hba.mono B7.size)
    have Ca := hid (C7.out.trans (hba.mono C7.out.size))
    have Ua := hid (U7.out.below hba)
    have Wa := hid (W7.out.below hba)
    have Ka := hid (K7.out.below hba)
    have Ra := hid (R7.out.below hba)
    have Xa : Hid (wa.heap[X]? = some (.cells #[.int .i64 r.status, .int .i64 r.now, .slice x1 r.vars.length y1, .slice x2 r.marks.length y2, .slice x3 r.dues.length y3] 26)) := hid (blk_below X7.out hba)
    have P9 := blk_below PP.out (C7.out.trans (hb9.mono C7.out.size))
    have pp0 := Ch.blk_cell P9 0
    have pp1 := Ch.blk_cell P9 1
    have pp2 := Ch.blk_cell P9 2
    have pp3 := Ch.blk_cell P9 3
    have pp4 := Ch.blk_cell P9 4
    have pp5 := Ch.blk_cell P9 5
    have ppl := Ch.blk_lt P9
    have EA := hid ea
    clear P9 hO9 hb9 hxa hba U7 W7 C7 HIM eG ea K7 R7 X7
    go_wp2_with fail
    rw [← EA.out, ← LG.out]
    clear EA
    refine (Cr.eqR _ _ cc rr _ _ _ _ _ _ wa SR.out Oa.out.at' (I0.out.below Ca.out)).mono ?_
    rintro e wb ⟨rfl, hbb⟩
    clear pp0 pp1 pp2 pp3 pp4 pp5 ppl
    have Gb : Hid (wb.heap[G]? = some (.cells #[.int .i64 cc, .int .i64 rr.status, .int .i64 rr.now, .slice h1 rr.vars.length i1, .slice h2 rr.marks.length i2, .slice h3 rr.dues.length i3] 28)) := hid (blk_below Ga.out hbb)
    have Ob := hid (Oa.out.below hbb)
    have Ub := hid (Ua.out.below hbb)
    have Wb := hid (Wa.out.below hbb)
    have Kb := hid (Ka.out.below hbb)
    have Rb := hid (Ra.out.below hbb)
    have Xb : Hid (wb.heap[X]? = some (.cells #[.int .i64 r.status, .int .i64 r.now, .slice x1 r.vars.length y1, .slice x2 r.marks.length y2, .slice x3 r.dues.length y3] 26)) := hid (blk_below Xa.out hbb)
    have Bb := Ba.trans (hbb.mono Ba.size)
    have Cb := hid (Ca.out.trans (hbb.mono Ca.out.size))
    have sb := hbb.size
    clear Ga Oa Ua Wa Ka Ra Xa Ca
    clear hbb
    go_wp2_with fail
    refine (HT1.out _ Bb).mono ?_
    rintro e wd ⟨u3, rfl, hu4, hbd⟩
    obtain ⟨x7, y7, rfl⟩ := hu4.slice
    have HEQ := hid (eqS _ _ l _ _ wd S1.out (Ub.out.below hbd) hu4)
    have Gd : Hid (wd.heap[G]? = some (.cells #[.int .i64 cc, .int .i64 rr.status, .int .i64 rr.now, .slice h1 rr.vars.length i1, .slice h2 rr.marks.length i2, .slice h3 rr.dues.length i3] 28)) := hid (blk_below Gb.out hbd)
    have Od := hid (Ob.out.below hbd)
    have Ud := hid (Ub.out.below hbd)
    have Wd := hid (Wb.out.below hbd)
    have Kd := hid (Kb.out.below hbd)
    have Rd := hid (Rb.out.below hbd)
    have Xd : Hid (wd.heap[X]? = some (.cells #[.int .i64 r.status, .int .i64 r.now, .slice x1 r.vars.length y1, .slice x2 r.marks.length y2, .slice x3 r.dues.length y3] 26)) := hid (blk_below Xb.out hbd)
    have Bd := Bb.trans (hbd.mono Bb.size)
    have Cd := hid (Cb.out.trans (hbd.mono Cb.out.size))
    have sd := hbd.size
    clear Gb Ob Ub Wb Kb Rb Xb Cb
    clear hu4 hbd
    go_wp2_with fail
    refine HEQ.out.mono ?_
    rintro e we ⟨rfl, hbe⟩
    have Ge : Hid (we.heap[G]? = some (.cells #[.int .i64 cc, .int .i64 rr.status, .int .i64 rr.now, .slice h1 rr.vars.length i1, .slice h2 rr.marks.length i2, .slice h3 rr.dues.length i3] 28)) := hid (blk_below Gd.out hbe)
    have Oe := hid (Od.out.below hbe)
    have Ue := hid (Ud.out.below hbe)
    have We := hid (Wd.out.below hbe)
    have Ke := hid (Kd.out.below hbe)
    have Re := hid (Rd.out.below hbe)
    have Xe : Hid (we.heap[X]? = some (.cells #[.int .i64 r.status, .int .i64 r.now, .slice x1 r.vars.length y1, .slice x2 r.marks.length y2, .slice x3 r.dues.length y3] 26)) := hid (blk_below Xd.out hbe)
    have Be := Bd.trans (hbe.mono Bd.size)
    have Ce := hid (Cd.out.trans (hbe.mono Cd.out.size))
    have se := hbe.size
    clear Gd Od Ud Wd Kd Rd Xd Cd
    clear hbe HEQ
    have hBd := Be.drew
    have HDd : Hid (we.drew.heap[w.heap.size]? = some (.cells #[.int .i64 r.status, .int .i64 r.now, .slice a1 r.vars.length c1, .slice a2 r.marks.length c2, .slice a3 r.dues.length c3] 40) ∧ we.drew.heap[X]? = some (.cells #[.int .i64 r.status, .int .i64 r.now, .slice x1 r.vars.length y1, .slice x2 r.marks.length y2, .slice x3 r.dues.length y3] 26)) := hid ⟨blk_below HKc.out Ce.out.drew, Xe.out⟩
    have hdd : Below we.heap.size we we.drew := (Below.refl _ we).drew
    have Kdd := hid (Ke.out.below hdd)
    go_wp2
    refine wp_region_held_drew (S := fun wx => wx.heap[w.heap.size]? = some (.cells #[.int .i64 r.status, .int .i64 r.now, .slice a1 r.vars.length c1, .slice a2 r.marks.length c2, .slice a3 r.dues.length c3] 40) ∧ wx.heap[X]? = some (.cells #[.int .i64 r.status, .int .i64 r.now, .slice x1 r.vars.length y1, .slice x2 r.marks.length y2, .slice x3 r.dues.length y3] 26)) (by kernel_rfl) HDd.out (fun hHeld => ?_)
    refine wpAnyH_take (i := 0) (v := .agg #[.int .i64 r.status, .int .i64 r.now, .slice x1 r.vars.length y1, .slice x2 r.marks.length y2, .slice x3 r.dues.length y3]) rfl (by kernel_rfl) (by kernel_rfl) (by kernel_rfl) (fun _ _ _ h => h) (Or.inl ⟨by kernel_rfl, by intro w hSw; (try dsimp only at hSw); have m0 := Ch.blk_cell hSw.2 0; have m1 := Ch.blk_cell hSw.2 1; have m2 := Ch.blk_cell hSw.2 2; have m3 := Ch.blk_cell hSw.2 3; have m4 := Ch.blk_cell hSw.2 4; clear hSw; go_simp⟩) (by assumption) ?_
    simp only [Act.put, List.setIfInBounds_toArray, List.set_cons_zero, List.set_cons_succ]
    refine wpAnyH_take (i := 1) (v := .agg #[.int .i64 r.status, .int .i64 r.now, .slice a1 r.vars.length c1, .slice a2 r.marks.length c2, .slice a3 r.dues.length c3]) rfl (by kernel_rfl) (by kernel_rfl) (by kernel_rfl) (fun _ _ _ h => h) (Or.inl ⟨by kernel_rfl, by intro w hSw; (try dsimp only at hSw); have m0 := Ch.blk_cell hSw.1 0; have m1 := Ch.blk_cell hSw.1 1; have m2 := Ch.blk_cell hSw.1 2; have m3 := Ch.blk_cell hSw.1 3; have m4 := Ch.blk_cell hSw.1 4; clear hSw; go_simp⟩) (by assumption) ?_
    simp only [Act.put, List.setIfInBounds_toArray, List.set_cons_zero, List.set_cons_succ]
    refine wpAnyH_ready (rs := [2]) (by kernel_rfl) (by simp) ?_
    refine AllReadyH.cons rfl (fun K hK => ?_) AllReadyH.nil
    go_simp
    go_at_call 21
    refine (HC1.out _ hBd).mono ?_
    rintro e wf ⟨p1, p2, p3, rfl, hu5, hbf⟩
    obtain ⟨z1, t1, rfl⟩ := hu5.vars.slice
    obtain ⟨z2, t2, rfl⟩ := hu5.marks.slice
    obtain ⟨z3, t3, rfl⟩ := hu5.dues.slice
    have HEC := hid (Ch.eq _ _ r _ _ _ _ _ _ wf S2.out (Kdd.out.below hbf) hu5)
    have hdf := hdd.trans (hbf.mono hdd.size)
    have HDf : Hid (wf.heap[w.heap.size]? = some (.cells #[.int .i64 r.status, .int .i64 r.now, .slice a1 r.vars.length c1, .slice a2 r.marks.length c2, .slice a3 r.dues.length c3] 40) ∧ wf.heap[X]? = some (.cells #[.int .i64 r.status, .int .i64 r.now, .slice x1 r.vars.length y1, .slice x2 r.marks.length y2, .slice x3 r.dues.length y3] 26)) := hid ⟨blk_below HDd.out.1 hbf, blk_below HDd.out.2 hbf⟩
    clear hu5 hbf
    go_wp2_with fail
    refine hK.out _ _ HDf.out (fun hHeld => ?_)
    clear hK K
    try simp only [Act.put, List.setIfInBounds_toArray, List.set_cons_zero, List.set_cons_succ]
    refine wpAnyH_ready (rs := [3]) (by kernel_rfl) (by simp) ?_
    refine AllReadyH.cons rfl (fun K hK => ?_) AllReadyH.nil
    go_simp
    go_at_call 23
    refine HEC.out.mono ?_
    rintro e wg ⟨rfl, hbg⟩
    have hdg := hdf.trans (hbg.mono hdf.size)
    have HDg : Hid (wg.heap[w.heap.size]? = some (.cells #[.int .i64 r.status, .int .i64 r.now, .slice a1 r.vars.length c1, .slice a2 r.marks.length c2, .slice a3 r.dues.length c3] 40) ∧ wg.heap[X]? = some (.cells #[.int .i64 r.status, .int .i64 r.now, .slice x1 r.vars.length y1, .slice x2 r.marks.length y2, .slice x3 r.dues.length y3] 26)) := hid ⟨blk_below HDf.out.1 hbg, blk_below HDf.out.2 hbg⟩
    clear hbg
    go_wp2_with fail
    refine hK.out _ _ HDg.out (fun hHeld => ?_)
    clear hK K
    try simp only [Act.put, List.setIfInBounds_toArray, List.set_cons_zero, List.set_cons_succ]
    refine wpAnyH_take (i := 4) (v := .bool false) rfl (by kernel_rfl) (by kernel_rfl) (by kernel_rfl) (fun _ _ _ h => h) (Or.inl ⟨by kernel_rfl, by intro w hSw; (try dsimp only at hSw); go_simp⟩) (by assumption) ?_
    simp only [Act.put, List.setIfInBounds_toArray, List.set_cons_zero, List.set_cons_succ]
    refine wpAnyH_done (by kernel_rfl) ?_ _
    clear hHeld HDd HDf HDg HEC Kdd hBd hdf hdd
    have Gg : Hid (wg.heap[G]? = some (.cells #[.int .i64 cc, .int .i64 rr.status, .int .i64 rr.now, .slice h1 rr.vars.length i1, .slice h2 rr.marks.length i2, .slice h3 rr.dues.length i3] 28)) := hid (blk_below Ge.out hdg)
    have Og := hid (Oe.out.below hdg)
    have Wg := hid (We.out.below hdg)
    have Rg := hid (Re.out.below hdg)
    have Xg : Hid (wg.heap[X]? = some (.cells #[.int .i64 r.status, .int .i64 r.now, .slice x1 r.vars.length y1, .slice x2 r.marks.length y2, .slice x3 r.dues.length y3] 26)) := hid (blk_below Xe.out hdg)
    have Bg := Be.trans (hdg.mono Be.size)
    have Cg := hid (Ce.out.trans (hdg.mono Ce.out.size))
    have sg := hdg.size
    clear Ge Oe We Re Xe Ce
    clear hdg Ue Ke
    go_wp2_with fail
    refine (markSteps _ _ _ l.length (lenC l) (lenE l) _ (by omega) (lensC S1.out) (lensE S1.out) Wg.out).mono ?_
    rintro e wj ⟨⟨rj, rfl, hrj⟩, ham⟩
    have Gj : Hid (wj.heap[G]? = some (.cells #[.int .i64 cc, .int .i64 rr.status, .int .i64 rr.now, .slice h1 rr.vars.length i1, .slice h2 rr.marks.length i2, .slice h3 rr.dues.length i3] 28)) := hid (blk_amid Gg.out ham (.inr (by have := LG.out; omega)))
    have Oj := hid (own_amid Og.out ham (by omega))
    have Rj := hid (Rg.out.amid ham (by omega))
    have Xj : Hid (wj.heap[X]? = some (.cells #[.int .i64 r.status, .int .i64 r.now, .slice x1 r.vars.length y1, .slice x2 r.marks.length y2, .slice x3 r.dues.length y3] 26)) := hid (blk_amid Xg.out ham (.inr (by have := LX.out; omega)))
    have Bj := below_amid Bg (Nat.le_refl _) ham (by have := B3.size; omega)
    have Cj := hid (below_amid Cg.out (Nat.le_refl _) ham (by omega))
    have sj := ham.size
    clear Gg Og Rg Xg Cg
    clear ham Wg
    have d0 := Ch.blk_cell Xj.out 0
    have d1 := Ch.blk_cell Xj.out 1
    have d2 := Ch.blk_cell Xj.out 2
    have d3 := Ch.blk_cell Xj.out 3
    have d4 := Ch.blk_cell Xj.out 4
    have dl := Ch.blk_lt Xj.out
    have HMC := hid (Ch.markC _ _ r _ _ _ rj wj S2.out (by omega) (by omega) (by omega) Rj.out)
    go_wp2_with fail
    refine HMC.out.mono ?_
    rintro e wk ⟨⟨rk, rfl, hrk⟩, ham⟩
    clear d0 d1 d2 d3 d4 dl HMC
    have Gk : Hid (wk.heap[G]? = some (.cells #[.int .i64 cc, .int .i64 rr.status, .int .i64 rr.now, .slice h1 rr.vars.length i1, .slice h2 rr.marks.length i2, .slice h3 rr.dues.length i3] 28)) := hid (blk_amid Gj.out ham (.inr (by have := LG.out; omega)))
    have Ok := hid (own_amid Oj.out ham (by omega))
    have Bk := below_amid Bj (Nat.le_refl _) ham (by have := B3.size; omega)
    have Ck := hid (below_amid Cj.out (Nat.le_refl _) ham (by omega))
    have sk := ham.size
    clear Gj Oj Cj
    clear ham Rj Xj
    have qk : ¬ rk < 0 := by omega
    have PX := blk_below PP.out Ck.out
    have pp0 := Ch.blk_cell PX 0
    have pp1 := Ch.blk_cell PX 1
    have pp2 := Ch.blk_cell PX 2
    have pp3 := Ch.blk_cell PX 3
    have pp4 := Ch.blk_cell PX 4
    have pp5 := Ch.blk_cell PX 5
    have ppl := Ch.blk_lt PX
    clear PX
    have pg0 := Ch.blk_cell Gk.out 0
    have pg1 := Ch.blk_cell Gk.out 1
    have pg2 := Ch.blk_cell Gk.out 2
    have pg3 := Ch.blk_cell Gk.out 3
    have pg4 := Ch.blk_cell Gk.out 4
    have pg5 := Ch.blk_cell Gk.out 5
    have pgl := Ch.blk_lt Gk.out
    go_wp2_with fail
    refine (Cr.eqR _ _ cc rr _ _ _ _ _ _ wk SR.out Ok.out.at' (I0.out.below Ck.out)).mono ?_
    rintro e wm ⟨rfl, hbm⟩
    clear pp0 pp1 pp2 pp3 pp4 pp5 ppl
    clear pg0 pg1 pg2 pg3 pg4 pg5 pgl
    have Gm : Hid (wm.heap[G]? = some (.cells #[.int .i64 cc, .int .i64 rr.status, .int .i64 rr.now, .slice h1 rr.vars.length i1, .slice h2 rr.marks.length i2, .slice h3 rr.dues.length i3] 28)) := hid (blk_below Gk.out hbm)
    have Om := hid (Ok.out.below hbm)
    have Bm := Bk.trans (hbm.mono Bk.size)
    have Cm := hid (Ck.out.trans (hbm.mono Ck.out.size))
    have sm := hbm.size
    clear Gk Ok Ck
    clear hbm
    have pg0 := Ch.blk_cell Gm.out 0
    have pg1 := Ch.blk_cell Gm.out 1
    have pg2 := Ch.blk_cell Gm.out 2
    have pg3 := Ch.blk_cell Gm.out 3
    have pg4 := Ch.blk_cell Gm.out 4
    have pg5 := Ch.blk_cell Gm.out 5
    have pgl := Ch.blk_lt Gm.out
    go_wp2_with fail
    refine (Cr.markR _ G rr cc _ _ _ wm SR.out (Nat.le_of_lt pgl) Om.out HIN.out).mono ?_
    rintro e wn ⟨rfl, hon, hwn⟩
    clear pg0 pg1 pg2 pg3 pg4 pg5 pgl
    have Gn : Hid (wn.heap[G]? = some (.cells #[.int .i64 cc, .int .i64 rr.status, .int .i64 rr.now, .slice h1 rr.vars.length i1, .slice h2 rr.marks.length i2, .slice h3 rr.dues.length i3] 28)) := hid (blk_within Gm.out hwn (.inr (Nat.le_refl _)))
    have Mn := hid hon
    have Bn := below_within Bm (Nat.le_refl _) hwn (by have := B3.size; omega)
    have Cn := hid (below_within Cm.out (Nat.le_refl _) hwn (by omega))
    have sn := hwn.size
    clear hon hwn Gm Om Cm
    have pg0 := Ch.blk_cell Gn.out 0
    have pg1 := Ch.blk_cell Gn.out 1
    have pg2 := Ch.blk_cell Gn.out 2
    have pg3 := Ch.blk_cell Gn.out 3
    have pg4 := Ch.blk_cell Gn.out 4
    have pg5 := Ch.blk_cell Gn.out 5
    have pgl := Ch.blk_lt Gn.out
    go_wp2_with fail
    refine (Cr.heldR _ rr cc _ _ _ wn SR.out Mn.out.at').mono ?_
    rintro e wo ⟨rfl, hbo⟩
    clear pg0 pg1 pg2 pg3 pg4 pg5 pgl
    have Go : Hid (wo.heap[G]? = some (.cells #[.int .i64 cc, .int .i64 rr.status, .int .i64 rr.now, .slice h1 rr.vars.length i1, .slice h2 rr.marks.length i2, .slice h3 rr.dues.length i3] 28)) := hid (blk_below Gn.out hbo)
    have Mo := hid (Mn.out.below hbo)
    have Bo := Bn.trans (hbo.mono Bn.size)
    have Co := hid (Cn.out.trans (hbo.mono Cn.out.size))
    have so := hbo.size
    clear Gn Mn Cn
    clear hbo
    have qq1 : ¬ (1 + (rr.vars.length : Int) + (rr.marks.length : Int) + (rr.dues.length : Int)) < 0 := by omega
    have qq2 : ((1 + (rr.vars.length : Int) + (rr.marks.length : Int) + (rr.dues.length : Int)) != (1 + (rr.vars.length : Int) + (rr.marks.length : Int) + (rr.dues.length : Int))) = false := by simp
    have HKod : Hid (wo.drew.heap[w.heap.size]? = some (.cells #[.int .i64 r.status, .int .i64 r.now, .slice a1 r.vars.length c1, .slice a2 r.marks.length c2, .slice a3 r.dues.length c3] 40)) := hid (blk_below HKc.out Co.out.drew)
    have HBod := hid Bo.drew
    have HKB : Hid (wo.heap[w.heap.size]? = some (.cells #[.int .i64 r.status, .int .i64 r.now, .slice a1 r.vars.length c1, .slice a2 r.marks.length c2, .slice a3 r.dues.length c3] 40)) := hid (blk_below HKc.out Co.out)
    have HBs : Hid (Below wo.heap.size wo wo.drew) := hid (Below.refl _ wo).drew
    go_wp2
    go_cut [15] from 79 (fun s15 wx => ∃ p m1 n1 m2 n2 m3 n3, s15 = .pointer (some ⟨p, 0, none⟩) ∧ Hid (Res wo wx p (.slice m1 rr.vars.length n1) (.slice m2 rr.marks.length n2) (.slice m3 rr.dues.length n3) cc rr))
    case first =>
      refine wp_region_held_drew (S := fun wx => wx.heap[w.heap.size]? = some (.cells #[.int .i64 r.status, .int .i64 r.now, .slice a1 r.vars.length c1, .slice a2 r.marks.length c2, .slice a3 r.dues.length c3] 40)) (by kernel_rfl) HKod.out (fun hHeld => ?_)
      refine wpAnyH_take (i := 0) (v := .slice b0 l.length k0) rfl (by kernel_rfl) (by kernel_rfl) (by kernel_rfl) (fun _ _ _ h => h) (Or.inl ⟨by kernel_rfl, by intro w hSw; (try dsimp only at hSw); go_simp⟩) (by assumption) ?_
      simp only [Act.put, List.setIfInBounds_toArray, List.set_cons_zero, List.set_cons_succ]
      refine wpAnyH_take (i := 2) (v := .agg #[.int .i64 r.status, .int .i64 r.now, .slice a1 r.vars.length c1, .slice a2 r.marks.length c2, .slice a3 r.dues.length c3]) rfl (by kernel_rfl) (by kernel_rfl) (by kernel_rfl) (fun _ _ _ h => h) (Or.inl ⟨by kernel_rfl, by intro w hSw; (try dsimp only at hSw); have m0 := Ch.blk_cell hSw 0; have m1 := Ch.blk_cell hSw 1; have m2 := Ch.blk_cell hSw 2; have m3 := Ch.blk_cell hSw 3; have m4 := Ch.blk_cell hSw 4; clear hSw; go_simp⟩) (by assumption) ?_
      simp only [Act.put, List.setIfInBounds_toArray, List.set_cons_zero, List.set_cons_succ]
      refine wpAnyH_take (i := 4) (v := .int .i64 x) rfl (by kernel_rfl) (by kernel_rfl) (by kernel_rfl) (fun _ _ _ h => h) (Or.inl ⟨by kernel_rfl, by intro w hSw; (try dsimp only at hSw); go_simp⟩) (by assumption) ?_
      simp only [Act.put, List.setIfInBounds_toArray, List.set_cons_zero, List.set_cons_succ]
      refine wpAnyH_ready (rs := [1, 6]) (by kernel_rfl) (by simp) ?_
      refine (AllReadyH.cons rfl (fun K hK => ?_) (AllReadyH.cons rfl (fun K hK => ?_) AllReadyH.nil))
      · go_simp
        go_at_call 9
        refine (HT1.out _ HBod.out).mono ?_
        rintro e q1 ⟨u1, rfl, hu1, hb1⟩
        obtain ⟨x0, y0, rfl⟩ := hu1.slice
        have U1 := hid hu1
        clear hu1
        have BW1 := hid (HBod.out.trans (hb1.mono HBod.out.size))
        have BS1 := hid (HBs.out.trans (hb1.mono HBs.out.size))
        have hKK1 : q1.heap[w.heap.size]? = some (.cells #[.int .i64 r.status, .int .i64 r.now, .slice a1 r.vars.length c1, .slice a2 r.marks.length c2, .slice a3 r.dues.length c3] 40) := blk_below HKB.out BS1.out
        clear hb1
        go_wp2_with fail
        refine hK.out _ _ hKK1 (fun hHeld => ?_)
        clear hK K
        try simp only [Act.put, List.setIfInBounds_toArray, List.set_cons_zero, List.set_cons_succ]
        refine wpAnyH_ready (rs := [3, 6]) (by kernel_rfl) (by simp) ?_
        refine (AllReadyH.cons rfl (fun K hK => ?_) (AllReadyH.cons rfl (fun K hK => ?_) AllReadyH.nil))
        · go_simp
          go_at_call 21
          refine (HC1.out _ BW1.out).mono ?_
          rintro e q2 ⟨p1, p2, p3, rfl, hu2, hb2⟩
          obtain ⟨x1, y1, rfl⟩ := hu2.vars.slice
          obtain ⟨x2, y2, rfl⟩ := hu2.marks.slice
          obtain ⟨x3, y3, rfl⟩ := hu2.dues.slice
          have KK2 := hid (hu2.mono (Nat.zero_le _))
          clear hu2
          have BW2 := hid (BW1.out.trans (hb2.mono BW1.out.size))
          have BS2 := hid (BS1.out.trans (hb2.mono BS1.out.size))
          have Ux2 := hid (U1.out.below hb2)
          have hKK2 : q2.heap[w.heap.size]? = some (.cells #[.int .i64 r.status, .int .i64 r.now, .slice a1 r.vars.length c1, .slice a2 r.marks.length c2, .slice a3 r.dues.length c3] 40) := blk_below HKB.out BS2.out
          clear hb2
          go_wp2_with fail
          refine hK.out _ _ hKK2 (fun hHeld => ?_)
          clear hK K
          try simp only [Act.put, List.setIfInBounds_toArray, List.set_cons_zero, List.set_cons_succ]
          refine wpAnyH_ready (rs := [5, 6]) (by kernel_rfl) (by simp) ?_
          refine (AllReadyH.cons rfl (fun K hK => ?_) (AllReadyH.cons rfl (fun K hK => ?_) AllReadyH.nil))
          · go_simp
            go_at_call 28
            refine (HIK.out _ _ _ _ _ BW2.out (Ux2.out.mono (Nat.zero_le _)) KK2.out).mono ?_
            rintro e q3 ⟨s1, s2, s3, rfl, hO, hb3⟩
            have hI := hO.at'
            have II3 := hid hI
            obtain ⟨m1, n1, rfl⟩ := hI.vars.slice
            obtain ⟨m2, n2, rfl⟩ := hI.marks.slice
            obtain ⟨m3, n3, rfl⟩ := hI.dues.slice
            clear hI hO
            have BW3 := hid (BW2.out.trans (hb3.mono BW2.out.size))
            have BS3 := hid (BS2.out.trans (hb3.mono BS2.out.size))
            have hKK3 : q3.heap[w.heap.size]? = some (.cells #[.int .i64 r.status, .int .i64 r.now, .slice a1 r.vars.length c1, .slice a2 r.marks.length c2, .slice a3 r.dues.length c3] 40) := blk_below HKB.out BS3.out
            clear hb3
            go_wp2_with fail
            refine hK.out _ _ hKK3 (fun hHeld => ?_)
            clear hK K
            try simp only [Act.put, List.setIfInBounds_toArray, List.set_cons_zero, List.set_cons_succ]
            refine wpAnyH_ready (rs := [6]) (by kernel_rfl) (by simp) ?_
            refine (AllReadyH.cons rfl (fun K hK => ?_) AllReadyH.nil)
            go_simp
            obtain ⟨q4, eq4⟩ : ∃ q4, q4 = (q3.alloc (.cells #[.int .i64 0, .int .i64 0, .int .i64 0, .slice none 0 0, .slice none 0 0, .slice none 0 0] 28)) := ⟨_, rfl⟩
            have hb4 : Below q3.heap.size q3 q4 := by rw [eq4]; exact new_below q3 _
            have PA4 : Hid (q4.heap[q3.heap.size]? = some (.cells #[.int .i64 0, .int .i64 0, .int .i64 0, .slice none 0 0, .slice none 0 0, .slice none 0 0] 28)) := hid (by rw [eq4]; exact Ch.new_blk _ _)
            rw [← eq4]
            clear eq4
            have LP4 : Hid (wo.heap.size ≤ q3.heap.size) := hid BS3.out.size
            have BW4 := hid (BW3.out.trans (hb4.mono BW3.out.size))
            have BS4 := hid (BS3.out.trans (hb4.mono BS3.out.size))
            have BF4 := hid hb4
            have LF4 : Hid (q3.heap.size ≤ q3.heap.size) := hid (Nat.le_refl _)
            have hKK4 : q4.heap[w.heap.size]? = some (.cells #[.int .i64 r.status, .int .i64 r.now, .slice a1 r.vars.length c1, .slice a2 r.marks.length c2, .slice a3 r.dues.length c3] 40) := blk_below HKB.out BS4.out
            clear hb4
            refine hK.out _ _ hKK4 (fun hHeld => ?_)
            clear hK K
            try simp only [Act.put, List.setIfInBounds_toArray, List.set_cons_zero, List.set_cons_succ]
            have t0 := Ch.blk_free PA4.out 0
            have t1 := Ch.blk_free PA4.out 1
            have t2 := Ch.blk_free PA4.out 2
            have t3 := Ch.blk_free PA4.out 3
            have t4 := Ch.blk_free PA4.out 4
            have t5 := Ch.blk_free PA4.out 5
            have z0 : q4.cell? ⟨q3.heap.size, 0, none⟩ = some (.int .i64 0) := Ch.blk_cell PA4.out 0
            have z1 : q4.cell? ⟨q3.heap.size, 1, none⟩ = some (.int .i64 0) := Ch.blk_cell PA4.out 1
            have z2 : q4.cell? ⟨q3.heap.size, 2, none⟩ = some (.int .i64 0) := Ch.blk_cell PA4.out 2
            have z3 : q4.cell? ⟨q3.heap.size, 3, none⟩ = some (.slice none 0 0) := Ch.blk_cell PA4.out 3
            have z4 : q4.cell? ⟨q3.heap.size, 4, none⟩ = some (.slice none 0 0) := Ch.blk_cell PA4.out 4
            have z5 : q4.cell? ⟨q3.heap.size, 5, none⟩ = some (.slice none 0 0) := Ch.blk_cell PA4.out 5
            have HRS := hid (res_b (cc := cc) BS4.out LP4.out PA4.out (II3.out.mono (Nat.zero_le _)) BF4.out LF4.out)
            have hKS : ((((((q4.setCell ⟨q3.heap.size, 0, none⟩ (.int .i64 cc)).setCell ⟨q3.heap.size, 1, none⟩ (.int .i64 rr.status)).setCell ⟨q3.heap.size, 2, none⟩ (.int .i64 rr.now)).setCell ⟨q3.heap.size, 3, none⟩ (.slice m1 rr.vars.length n1)).setCell ⟨q3.heap.size, 4, none⟩ (.slice m2 rr.marks.length n2)).setCell ⟨q3.heap.size, 5, none⟩ (.slice m3 rr.dues.length n3)).heap[w.heap.size]? = some (.cells #[.int .i64 r.status, .int .i64 r.now, .slice a1 r.vars.length c1, .slice a2 r.marks.length c2, .slice a3 r.dues.length c3] 40) := blk_below HKB.out HRS.out.bel
            refine wpAnyH_ready (rs := [7]) (by kernel_rfl) (by simp) ?_
            refine AllReadyH.cons rfl (fun K hK => ?_) AllReadyH.nil
            go_simp
            refine hK.out _ _ hKS (fun hHeld => ?_)
            clear hK K
            try simp only [Act.put, List.setIfInBounds_toArray, List.set_cons_zero, List.set_cons_succ]
            refine wpAnyH_done (by kernel_rfl) ?_ _
            go_wp2_with fail
            go_meet
            exact ⟨_, _, _, _, _, _, _, rfl, HRS⟩
          · go_simp
            obtain ⟨q3, eq3⟩ : ∃ q3, q3 = (q2.alloc (.cells #[.int .i64 0, .int .i64 0, .int .i64 0, .slice none 0 0, .slice none 0 0, .slice none 0 0] 28)) := ⟨_, rfl⟩
            have hb3 : Below q2.heap.size q2 q3 := by rw [eq3]; exact new_below q2 _
            have PA3 : Hid (q3.heap[q2.heap.size]? = some (.cells #[.int .i64 0, .int .i64 0, .int .i64 0, .slice none 0 0, .slice none 0 0, .slice none 0 0] 28)) := hid (by rw [eq3]; exact Ch.new_blk _ _)
            rw [← eq3]
            clear eq3
            have LP3 : Hid (wo.heap.size ≤ q2.heap.size) := hid BS2.out.size
            have BW3 := hid (BW2.out.trans (hb3.mono BW2.out.size))
            have BS3 := hid (BS2.out.trans (hb3.mono BS2.out.size))
            have Ux3 := hid (Ux2.out.below hb3)
            have KKx3 := hid (KK2.out.below hb3)
            have hKK3 : q3.heap[w.heap.size]? = some (.cells #[.int .i64 r.status, .int .i64 r.now, .slice a1 r.vars.length c1, .slice a2 r.marks.length c2, .slice a3 r.dues.length c3] 40) := blk_below HKB.out BS3.out
            clear hb3
            refine hK.out _ _ hKK3 (fun hHeld => ?_)
            clear hK K
            try simp only [Act.put, List.setIfInBounds_toArray, List.set_cons_zero, List.set_cons_succ]
            refine wpAnyH_ready (rs := [5]) (by kernel_rfl) (by simp) ?_
            refine (AllReadyH.cons rfl (fun K hK => ?_) AllReadyH.nil)
            go_simp
            go_at_call 28
            refine (HIK.out _ _ _ _ _ BW3.out (Ux3.out.mono (Nat.zero_le _)) KKx3.out).mono ?_
            rintro e q4 ⟨s1, s2, s3, rfl, hO, hb4⟩
            have hI := hO.at'
            have II4 := hid hI
            obtain ⟨m1, n1, rfl⟩ := hI.vars.slice
            obtain ⟨m2, n2, rfl⟩ := hI.marks.slice
            obtain ⟨m3, n3, rfl⟩ := hI.dues.slice
            clear hI hO
            have BW4 := hid (BW3.out.trans (hb4.mono BW3.out.size))
            have BS4 := hid (BS3.out.trans (hb4.mono BS3.out.size))
            have PX4 : Hid (q4.heap[q2.heap.size]? = some (.cells #[.int .i64 0, .int .i64 0, .int .i64 0, .slice none 0 0, .slice none 0 0, .slice none 0 0] 28)) := hid (blk_below PA3.out hb4)
            have hKK4 : q4.heap[w.heap.size]? = some (.cells #[.int .i64 r.status, .int .i64 r.now, .slice a1 r.vars.length c1, .slice a2 r.marks.length c2, .slice a3 r.dues.length c3] 40) := blk_below HKB.out BS4.out
            clear hb4
            go_wp2_with fail
            refine hK.out _ _ hKK4 (fun hHeld => ?_)
            clear hK K
            try simp only [Act.put, List.setIfInBounds_toArray, List.set_cons_zero, List.set_cons_succ]
            have t0 := Ch.blk_free PX4.out 0
            have t1 := Ch.blk_free PX4.out 1
            have t2 := Ch.blk_free PX4.out 2
            have t3 := Ch.blk_free PX4.out 3
            have t4 := Ch.blk_free PX4.out 4
            have t5 := Ch.blk_free PX4.out 5
            have z0 : q4.cell? ⟨q2.heap.size, 0, none⟩ = some (.int .i64 0) := Ch.blk_cell PX4.out 0
            have z1 : q4.cell? ⟨q2.heap.size, 1, none⟩ = some (.int .i64 0) := Ch.blk_cell PX4.out 1
            have z2 : q4.cell? ⟨q2.heap.size, 2, none⟩ = some (.int .i64 0) := Ch.blk_cell PX4.out 2
            have z3 : q4.cell? ⟨q2.heap.size, 3, none⟩ = some (.slice none 0 0) := Ch.blk_cell PX4.out 3
            have z4 : q4.cell? ⟨q2.heap.size, 4, none⟩ = some (.slice none 0 0) := Ch.blk_cell PX4.out 4
            have z5 : q4.cell? ⟨q2.heap.size, 5, none⟩ = some (.slice none 0 0) := Ch.blk_cell PX4.out 5
            have hpl : q2.heap.size < q3.heap.size := Ch.blk_lt PA3.out
            have HRS := hid (res_a (cc := cc) BS4.out LP3.out PX4.out II4.out hpl)
            have hKS : ((((((q4.setCell ⟨q2.heap.size, 0, none⟩ (.int .i64 cc)).setCell ⟨q2.heap.size, 1, none⟩ (.int .i64 rr.status)).setCell ⟨q2.heap.size, 2, none⟩ (.int .i64 rr.now)).setCell ⟨q2.heap.size, 3, none⟩ (.slice m1 rr.vars.length n1)).setCell ⟨q2.heap.size, 4, none⟩ (.slice m2 rr.marks.length n2)).setCell ⟨q2.heap.size, 5, none⟩ (.slice m3 rr.dues.length n3)).heap[w.heap.size]? = some (.cells #[.int .i64 r.status, .int .i64 r.now, .slice a1 r.vars.length c1, .slice a2 r.marks.length c2, .slice a3 r.dues.length c3] 40) := blk_below HKB.out HRS.out.bel
            refine wpAnyH_ready (rs := [7]) (by kernel_rfl) (by simp) ?_
            refine AllReadyH.cons rfl (fun K hK => ?_) AllReadyH.nil
            go_simp
            refine hK.out _ _ hKS (fun hHeld => ?_)
            clear hK K
            try simp only [Act.put, List.setIfInBounds_toArray, List.set_cons_zero, List.set_cons_succ]
            refine wpAnyH_done (by kernel_rfl) ?_ _
            go_wp2_with fail
            go_meet
            exact ⟨_, _, _, _, _, _, _, rfl, HRS⟩
        · go_simp
          obtain ⟨q2, eq2⟩ : ∃ q2, q2 = (q1.alloc (.cells #[.int .i64 0, .int .i64 0, .int .i64 0, .slice none 0 0, .slice none 0 0, .slice none 0 0] 28)) := ⟨_, rfl⟩
          have hb2 : Below q1.heap.size q1 q2 := by rw [eq2]; exact new_below q1 _
          have PA2 : Hid (q2.heap[q1.heap.size]? = some (.cells #[.int .i64 0, .int .i64 0, .int .i64 0, .slice none 0 0, .slice none 0 0, .slice none 0 0] 28)) := hid (by rw [eq2]; exact Ch.new_blk _ _)
          rw [← eq2]
          clear eq2
          have LP2 : Hid (wo.heap.size ≤ q1.heap.size) := hid BS1.out.size
          have BW2 := hid (BW1.out.trans (hb2.mono BW1.out.size))
          have BS2 := hid (BS1.out.trans (hb2.mono BS1.out.size))
          have Ux2 := hid (U1.out.below hb2)
          have hKK2 : q2.heap[w.heap.size]? = some (.cells #[.int .i64 r.status, .int .i64 r.now, .slice a1 r.vars.length c1, .slice a2 r.marks.length c2, .slice a3 r.dues.length c3] 40) := blk_below HKB.out BS2.out
          clear hb2
          refine hK.out _ _ hKK2 (fun hHeld => ?_)
          clear hK K
          try simp only [Act.put, List.setIfInBounds_toArray, List.set_cons_zero, List.set_cons_succ]
          refine wpAnyH_ready (rs := [3]) (by kernel_rfl) (by simp) ?_
          refine (AllReadyH.cons rfl (fun K hK => ?_) AllReadyH.nil)
          go_simp
          go_at_call 21
          refine (HC1.out _ BW2.out).mono ?_
          rintro e q3 ⟨p1, p2, p3, rfl, hu2, hb3⟩
          obtain ⟨x1, y1, rfl⟩ := hu2.vars.slice
          obtain ⟨x2, y2, rfl⟩ := hu2.marks.slice
          obtain ⟨x3, y3, rfl⟩ := hu2.dues.slice
          have KK3 := hid (hu2.mono (Nat.zero_le _))
          clear hu2
          have BW3 := hid (BW2.out.trans (hb3.mono BW2.out.size))
          have BS3 := hid (BS2.out.trans (hb3.mono BS2.out.size))
          have Ux3 := hid (Ux2.out.below hb3)
          have PX3 : Hid (q3.heap[q1.heap.size]? = some (.cells #[.int .i64 0, .int .i64 0, .int .i64 0, .slice none 0 0, .slice none 0 0, .slice none 0 0] 28)) := hid (blk_below PA2.out hb3)
          have hKK3 : q3.heap[w.heap.size]? = some (.cells #[.int .i64 r.status, .int .i64 r.now, .slice a1 r.vars.length c1, .slice a2 r.marks.length c2, .slice a3 r.dues.length c3] 40) := blk_below HKB.out BS3.out
          clear hb3
          go_wp2_with fail
          refine hK.out _ _ hKK3 (fun hHeld => ?_)
          clear hK K
          try simp only [Act.put, List.setIfInBounds_toArray, List.set_cons_zero, List.set_cons_succ]
          refine wpAnyH_ready (rs := [5]) (by kernel_rfl) (by simp) ?_
          refine (AllReadyH.cons rfl (fun K hK => ?_) AllReadyH.nil)
          go_simp
          go_at_call 28
          refine (HIK.out _ _ _ _ _ BW3.out (Ux3.out.mono (Nat.zero_le _)) KK3.out).mono ?_
          rintro e q4 ⟨s1, s2, s3, rfl, hO, hb4⟩
          have hI := hO.at'
          have II4 := hid hI
          obtain ⟨m1, n1, rfl⟩ := hI.vars.slice
          obtain ⟨m2, n2, rfl⟩ := hI.marks.slice
          obtain ⟨m3, n3, rfl⟩ := hI.dues.slice
          clear hI hO
          have BW4 := hid (BW3.out.trans (hb4.mono BW3.out.size))
          have BS4 := hid (BS3.out.trans (hb4.mono BS3.out.size))
          have PX4 : Hid (q4.heap[q1.heap.size]? = some (.cells #[.int .i64 0, .int .i64 0, .int .i64 0, .slice none 0 0, .slice none 0 0, .slice none 0 0] 28)) := hid (blk_below PX3.out hb4)
          have hKK4 : q4.heap[w.heap.size]? = some (.cells #[.int .i64 r.status, .int .i64 r.now, .slice a1 r.vars.length c1, .slice a2 r.marks.length c2, .slice a3 r.dues.length c3] 40) := blk_below HKB.out BS4.out
          clear hb4
          go_wp2_with fail
          refine hK.out _ _ hKK4 (fun hHeld => ?_)
          clear hK K
          try simp only [Act.put, List.setIfInBounds_toArray, List.set_cons_zero, List.set_cons_succ]
          have t0 := Ch.blk_free PX4.out 0
          have t1 := Ch.blk_free PX4.out 1
          have t2 := Ch.blk_free PX4.out 2
          have t3 := Ch.blk_free PX4.out 3
          have t4 := Ch.blk_free PX4.out 4
          have t5 := Ch.blk_free PX4.out 5
          have z0 : q4.cell? ⟨q1.heap.size, 0, none⟩ = some (.int .i64 0) := Ch.blk_cell PX4.out 0
          have z1 : q4.cell? ⟨q1.heap.size, 1, none⟩ = some (.int .i64 0) := Ch.blk_cell PX4.out 1
          have z2 : q4.cell? ⟨q1.heap.size, 2, none⟩ = some (.int .i64 0) := Ch.blk_cell PX4.out 2
          have z3 : q4.cell? ⟨q1.heap.size, 3, none⟩ = some (.slice none 0 0) := Ch.blk_cell PX4.out 3
          have z4 : q4.cell? ⟨q1.heap.size, 4, none⟩ = some (.slice none 0 0) := Ch.blk_cell PX4.out 4
          have z5 : q4.cell? ⟨q1.heap.size, 5, none⟩ = some (.slice none 0 0) := Ch.blk_cell PX4.out 5
          have hpl : q1.heap.size < q3.heap.size := Ch.blk_lt PX3.out
          have HRS := hid (res_a (cc := cc) BS4.out LP2.out PX4.out II4.out hpl)
          have hKS : ((((((q4.setCell ⟨q1.heap.size, 0, none⟩ (.int .i64 cc)).setCell ⟨q1.heap.size, 1, none⟩ (.int .i64 rr.status)).setCell ⟨q1.heap.size, 2, none⟩ (.int .i64 rr.now)).setCell ⟨q1.heap.size, 3, none⟩ (.slice m1 rr.vars.length n1)).setCell ⟨q1.heap.size, 4, none⟩ (.slice m2 rr.marks.length n2)).setCell ⟨q1.heap.size, 5, none⟩ (.slice m3 rr.dues.length n3)).heap[w.heap.size]? = some (.cells #[.int .i64 r.status, .int .i64 r.now, .slice a1 r.vars.length c1, .slice a2 r.marks.length c2, .slice a3 r.dues.length c3] 40) := blk_below HKB.out HRS.out.bel
          refine wpAnyH_ready (rs := [7]) (by kernel_rfl) (by simp) ?_
          refine AllReadyH.cons rfl (fun K hK => ?_) AllReadyH.nil
          go_simp
          refine hK.out _ _ hKS (fun hHeld => ?_)
          clear hK K
          try simp only [Act.put, List.setIfInBounds_toArray, List.set_cons_zero, List.set_cons_succ]
          refine wpAnyH_done (by kernel_rfl) ?_ _
          go_wp2_with fail
          go_meet
          exact ⟨_, _, _, _, _, _, _, rfl, HRS⟩
      · go_simp
        obtain ⟨q1, eq1⟩ : ∃ q1, q1 = (wo.alloc (.cells #[.int .i64 0, .int .i64 0, .int .i64 0, .slice none 0 0, .slice none 0 0, .slice none 0 0] 28)).drew := ⟨_, rfl⟩
        have hb1 : Below wo.drew.heap.size wo.drew q1 := by rw [eq1]; exact new_below wo.drew _
        have PA1 : Hid (q1.heap[wo.heap.size]? = some (.cells #[.int .i64 0, .int .i64 0, .int .i64 0, .slice none 0 0, .slice none 0 0, .slice none 0 0] 28)) := hid (by rw [eq1]; exact Ch.new_blk _ _)
        rw [← eq1]
        clear eq1
        have LP1 : Hid (wo.heap.size ≤ wo.heap.size) := hid HBs.out.size
        have BW1 := hid (HBod.out.trans (hb1.mono HBod.out.size))
        have BS1 := hid (HBs.out.trans (hb1.mono HBs.out.size))
        have hKK1 : q1.heap[w.heap.size]? = some (.cells #[.int .i64 r.status, .int .i64 r.now, .slice a1 r.vars.length c1, .slice a2 r.marks.length c2, .slice a3 r.dues.length c3] 40) := blk_below HKB.out BS1.out
        clear hb1
        refine hK.out _ _ hKK1 (fun hHeld => ?_)
        clear hK K
        try simp only [Act.put, List.setIfInBounds_toArray, List.set_cons_zero, List.set_cons_succ]
        refine wpAnyH_ready (rs := [1]) (by kernel_rfl) (by simp) ?_
        refine (AllReadyH.cons rfl (fun K hK => ?_) AllReadyH.nil)
        go_simp
        go_at_call 9
        refine (HT1.out _ BW1.out).mono ?_
        rintro e q2 ⟨u1, rfl, hu1, hb2⟩
        obtain ⟨x0, y0, rfl⟩ := hu1.slice
        have U2 := hid hu1
        clear hu1
        have BW2 := hid (BW1.out.trans (hb2.mono BW1.out.size))
        have BS2 := hid (BS1.out.trans (hb2.mono BS1.out.size))
        have PX2 : Hid (q2.heap[wo.heap.size]? = some (.cells #[.int .i64 0, .int .i64 0, .int .i64 0, .slice none 0 0, .slice none 0 0, .slice none 0 0] 28)) := hid (blk_below PA1.out hb2)
        have hKK2 : q2.heap[w.heap.size]? = some (.cells #[.int .i64 r.status, .int .i64 r.now, .slice a1 r.vars.length c1, .slice a2 r.marks.length c2, .slice a3 r.dues.length c3] 40) := blk_below HKB.out BS2.out
        clear hb2
        go_wp2_with fail
        refine hK.out _ _ hKK2 (fun hHeld => ?_)
        clear hK K
        try simp only [Act.put, List.setIfInBounds_toArray, List.set_cons_zero, List.set_cons_succ]
        refine wpAnyH_ready (rs := [3]) (by kernel_rfl) (by simp) ?_
        refine (AllReadyH.cons rfl (fun K hK => ?_) AllReadyH.nil)
        go_simp
        go_at_call 21
        refine (HC1.out _ BW2.out).mono ?_
        rintro e q3 ⟨p1, p2, p3, rfl, hu2, hb3⟩
        obtain ⟨x1, y1, rfl⟩ := hu2.vars.slice
        obtain ⟨x2, y2, rfl⟩ := hu2.marks.slice
        obtain ⟨x3, y3, rfl⟩ := hu2.dues.slice
        have KK3 := hid (hu2.mono (Nat.zero_le _))
        clear hu2
        have BW3 := hid (BW2.out.trans (hb3.mono BW2.out.size))
        have BS3 := hid (BS2.out.trans (hb3.mono BS2.out.size))
        have Ux3 := hid (U2.out.below hb3)
        have PX3 : Hid (q3.heap[wo.heap.size]? = some (.cells #[.int .i64 0, .int .i64 0, .int .i64 0, .slice none 0 0, .slice none 0 0, .slice none 0 0] 28)) := hid (blk_below PX2.out hb3)
        have hKK3 : q3.heap[w.heap.size]? = some (.cells #[.int .i64 r.status, .int .i64 r.now, .slice a1 r.vars.length c1, .slice a2 r.marks.length c2, .slice a3 r.dues.length c3] 40) := blk_below HKB.out BS3.out
        clear hb3
        go_wp2_with fail
        refine hK.out _ _ hKK3 (fun hHeld => ?_)
        clear hK K
        try simp only [Act.put, List.setIfInBounds_toArray, List.set_cons_zero, List.set_cons_succ]
        refine wpAnyH_ready (rs := [5]) (by kernel_rfl) (by simp) ?_
        refine (AllReadyH.cons rfl (fun K hK => ?_) AllReadyH.nil)
        go_simp
        go_at_call 28
        refine (HIK.out _ _ _ _ _ BW3.out (Ux3.out.mono (Nat.zero_le _)) KK3.out).mono ?_
        rintro e q4 ⟨s1, s2, s3, rfl, hO, hb4⟩
        have hI := hO.at'
        have II4 := hid hI
        obtain ⟨m1, n1, rfl⟩ := hI.vars.slice
        obtain ⟨m2, n2, rfl⟩ := hI.marks.slice
        obtain ⟨m3, n3, rfl⟩ := hI.dues.slice
        clear hI hO
        have BW4 := hid (BW3.out.trans (hb4.mono BW3.out.size))
        have BS4 := hid (BS3.out.trans (hb4.mono BS3.out.size))
        have PX4 : Hid (q4.heap[wo.heap.size]? = some (.cells #[.int .i64 0, .int .i64 0, .int .i64 0, .slice none 0 0, .slice none 0 0, .slice none 0 0] 28)) := hid (blk_below PX3.out hb4)
        have hKK4 : q4.heap[w.heap.size]? = some (.cells #[.int .i64 r.status, .int .i64 r.now, .slice a1 r.vars.length c1, .slice a2 r.marks.length c2, .slice a3 r.dues.length c3] 40) := blk_below HKB.out BS4.out
        clear hb4
        go_wp2_with fail
        refine hK.out _ _ hKK4 (fun hHeld => ?_)
        clear hK K
        try simp only [Act.put, List.setIfInBounds_toArray, List.set_cons_zero, List.set_cons_succ]
        have t0 := Ch.blk_free PX4.out 0
        have t1 := Ch.blk_free PX4.out 1
        have t2 := Ch.blk_free PX4.out 2
        have t3 := Ch.blk_free PX4.out 3
        have t4 := Ch.blk_free PX4.out 4
        have t5 := Ch.blk_free PX4.out 5
        have z0 : q4.cell? ⟨wo.heap.size, 0, none⟩ = some (.int .i64 0) := Ch.blk_cell PX4.out 0
        have z1 : q4.cell? ⟨wo.heap.size, 1, none⟩ = some (.int .i64 0) := Ch.blk_cell PX4.out 1
        have z2 : q4.cell? ⟨wo.heap.size, 2, none⟩ = some (.int .i64 0) := Ch.blk_cell PX4.out 2
        have z3 : q4.cell? ⟨wo.heap.size, 3, none⟩ = some (.slice none 0 0) := Ch.blk_cell PX4.out 3
        have z4 : q4.cell? ⟨wo.heap.size, 4, none⟩ = some (.slice none 0 0) := Ch.blk_cell PX4.out 4
        have z5 : q4.cell? ⟨wo.heap.size, 5, none⟩ = some (.slice none 0 0) := Ch.blk_cell PX4.out 5
        have hpl : wo.heap.size < q3.heap.size := Ch.blk_lt PX3.out
        have HRS := hid (res_a (cc := cc) BS4.out LP1.out PX4.out II4.out hpl)
        have hKS : ((((((q4.setCell ⟨wo.heap.size, 0, none⟩ (.int .i64 cc)).setCell ⟨wo.heap.size, 1, none⟩ (.int .i64 rr.status)).setCell ⟨wo.heap.size, 2, none⟩ (.int .i64 rr.now)).setCell ⟨wo.heap.size, 3, none⟩ (.slice m1 rr.vars.length n1)).setCell ⟨wo.heap.size, 4, none⟩ (.slice m2 rr.marks.length n2)).setCell ⟨wo.heap.size, 5, none⟩ (.slice m3 rr.dues.length n3)).heap[w.heap.size]? = some (.cells #[.int .i64 r.status, .int .i64 r.now, .slice a1 r.vars.length c1, .slice a2 r.marks.length c2, .slice a3 r.dues.length c3] 40) := blk_below HKB.out HRS.out.bel
        refine wpAnyH_ready (rs := [7]) (by kernel_rfl) (by simp) ?_
        refine AllReadyH.cons rfl (fun K hK => ?_) AllReadyH.nil
        go_simp
        refine hK.out _ _ hKS (fun hHeld => ?_)
        clear hK K
        try simp only [Act.put, List.setIfInBounds_toArray, List.set_cons_zero, List.set_cons_succ]
        refine wpAnyH_done (by kernel_rfl) ?_ _
        go_wp2_with fail
        go_meet
        exact ⟨_, _, _, _, _, _, _, rfl, HRS⟩
    case rest =>
      obtain ⟨p, m1, n1, m2, n2, m3, n3, rfl, HRS⟩ := hcut
      have hxc := HRS.out.bel
      have Bc := Bo.trans (hxc.mono Bo.size)
      have Cc := hid (Co.out.trans (hxc.mono Co.out.size))
      have PH := hid HRS.out.blk
      have J0 := hid HRS.out.lst
      have Gc : Hid (wc.heap[G]? = some (.cells #[.int .i64 cc, .int .i64 rr.status, .int .i64 rr.now, .slice h1 rr.vars.length i1, .slice h2 rr.marks.length i2, .slice h3 rr.dues.length i3] 28)) := hid (blk_below Go.out hxc)
      have Mc := hid (Mo.out.below hxc)
      clear HRS Go Mo Co hxc HKB HKod HBod
      have pg0 := Ch.blk_cell PH.out 0
      have pg1 := Ch.blk_cell PH.out 1
      have pg2 := Ch.blk_cell PH.out 2
      have pg3 := Ch.blk_cell PH.out 3
      have pg4 := Ch.blk_cell PH.out 4
      have pg5 := Ch.blk_cell PH.out 5
      have pgl := Ch.blk_lt PH.out
      have PX := blk_below PP.out Cc.out
      have pp0 := Ch.blk_cell PX 0
      have pp1 := Ch.blk_cell PX 1
      have pp2 := Ch.blk_cell PX 2
      have pp3 := Ch.blk_cell PX 3
      have pp4 := Ch.blk_cell PX 4
      have pp5 := Ch.blk_cell PX 5
      have ppl := Ch.blk_lt PX
      clear PX
      go_wp2_with fail
      refine (Cr.eqR _ _ cc rr _ _ _ _ _ _ wc SR.out J0.out (I0.out.below Cc.out)).mono ?_
      rintro e wz ⟨rfl, hbz⟩
      clear pp0 pp1 pp2 pp3 pp4 pp5 ppl
      clear pg0 pg1 pg2 pg3 pg4 pg5 pgl
      have Gz : Hid (wz.heap[G]? = some (.cells #[.int .i64 cc, .int .i64 rr.status, .int .i64 rr.now, .slice h1 rr.vars.length i1, .slice h2 rr.marks.length i2, .slice h3 rr.dues.length i3] 28)) := hid (blk_below Gc.out hbz)
      have Mz := hid (Mc.out.below hbz)
      have Bz := Bc.trans (hbz.mono Bc.size)
      clear hbz Gc Mc
      have pg0 := Ch.blk_cell Gz.out 0
      have pg1 := Ch.blk_cell Gz.out 1
      have pg2 := Ch.blk_cell Gz.out 2
      have pg3 := Ch.blk_cell Gz.out 3
      have pg4 := Ch.blk_cell Gz.out 4
      have pg5 := Ch.blk_cell Gz.out 5
      have pgl := Ch.blk_lt Gz.out
      go_wp2_with fail
      refine (Cr.heldR _ rr cc _ _ _ wz SR.out Mz.out.at').mono ?_
      rintro e wq ⟨rfl, hbq⟩
      have Bq := Bz.trans (hbq.mono Bz.size)
      go_wp2
      go_ret
      exact ⟨rfl, Bq⟩
set_option maxRecDepth 100000 in
theorem contract (H : Type) (enc : TypeId × Value → H) (W : World) (base : Nat) (args : Array Value) (ds gs : List (DataW H)) (before : List MemPlace)
    (hval : ∀ (j : Nat) t v, Tryz.f6.params[j]? = some t → args[j]? = some v → Value.okWide Tryz.prog W .any base t v)
    (hW : DataW.Whole enc Tryz.prog Tryz.f6.params.toList Rows.fnExactMailChartSpec.vars false W args.toList ds gs before) (hL : laidMetH Tryz.prog Rows.fnExactMailChartRow.laid W) :
    Calls Tryz.prog 6 args W fun e W' => ∃ v, e = .returned v ∧ Rows.fnExactMailChartSpec.post enc Tryz.prog Tryz.f6 false true false false W args v W' := by
  have hent := Crd.rul_of hL
  have hW' := hW
  obtain ⟨p, q, hA0, hV, rfl, hfz, hnd⟩ := hW
  have hA : DataW.TrodAll enc Tryz.prog W 0 (fun _ => true) true Tryz.f6.params.toList args.toList ds p := hA0
  rw [Tryz.params6] at hA hval
  obtain ⟨v0, vs0, d0, ds0, p0, q0, hargs, rfl, rfl, h0, r0⟩ := trodAll_cons hA
  obtain ⟨v1, vs1, d1, ds1, p1, q1, rfl, rfl, rfl, h1, r1⟩ := trodAll_cons r0
  obtain ⟨v2, vs2, d2, ds2, p2, q2, rfl, rfl, rfl, h2, r2⟩ := trodAll_cons r1
  obtain ⟨rfl, rfl, rfl⟩ := trodAll_nil r2
  obtain rfl : args = #[v0, v1, v2] := by cases args; simp_all
  obtain ⟨a0, len0, cap0, rfl⟩ := okWide_slice Tryz.underlying22 (hval 0 22 v0 rfl rfl)
  have k0 := h0
  have lt0 : ∀ x ∈ p0, x.block < W.heap.size := by obtain ⟨m, hm⟩ := k0; exact DataW.trod_lt m _ _ _ hm
  obtain ⟨l0, ga0, gb0, gc0⟩ : ∃ es, St.At W 0 (.slice a0 len0 cap0) es ∧ St.Ok es ∧ es.length ≤ maxLen := by
    obtain ⟨fuel, hf⟩ := h0
    exact St.open_all (by simpa [Value.cells] using hf)
  obtain ⟨cs1, rfl, _⟩ := okWide_struct Tryz.underlying40 (hval 1 40 v1 rfl rfl)
  have k1 := h1
  have lt1 : ∀ x ∈ p1, x.block < W.heap.size := by obtain ⟨m, hm⟩ := k1; exact DataW.trod_lt m _ _ _ hm
  obtain ⟨g1, n1, f1, e1, hc1, ga1, gk1⟩ : ∃ (g : Ch.RunD) (vn vf ve : Value), cs1.toList = [.int .i64 g.status, .int .i64 g.now, vn, vf, ve] ∧ Ch.At W 0 vn vf ve g ∧ Ch.Ok g := by
    obtain ⟨fuel, hf⟩ := h1
    exact Ch.open_all (by simpa [Value.cells] using hf)
  obtain rfl : cs1 = #[.int .i64 g1.status, .int .i64 g1.now, n1, f1, e1] := by cases cs1; simp_all
  obtain ⟨x2, rfl, rfl, rfl, wx2⟩ := open_int Tryz.underlying2 (hval 2 2 v2 rfl rfl) h2
  clear hA0
  refine (walk l0 _ g1 _ _ _ x2 W gc0 gb0 gk1 ga0 ga1 hent).mono fun e W' ⟨he, bel⟩ => ?_
  subst he
  have hV0 := hV
  obtain ⟨g, t, cs, fuel, dv, pv, rfl, hg, ht, hvar, hd, rfl⟩ := trodVars_one hV
  have hv' := Below.trodVars Crd.laidOut bel (ns := Rows.fnExactMailChartSpec.vars) (by kernel_rfl) hV0
  exact ⟨_, rfl, _, _, _, [], _, _, hW', trodAll_mk1 (shut_bool Tryz.underlying4 _), (trodAll_cons_mk (Below.trod Crd.laidOut (by kernel_rfl) (of_decide_eq_true (by kernel_rfl)) k0 bel lt0) (trodAll_cons_mk (Below.trod Crd.laidOut (by kernel_rfl) (of_decide_eq_true (by kernel_rfl)) k1 bel lt1) (trodAll_cons_mk (shut_int Tryz.underlying2 wx2) trodAll_mk0))), hv', bel.frame _, fun h => by cases h⟩
theorem laid_met (os : Os) : laidMet Tryz.prog Rows.fnExactMailChartRow.laid ((Crd.laidOver (World.holding Tryz.prog os ⟨#[], #[], []⟩)).forCall (fun _ _ => 0) ⟨#[], #[.slice Option.none 0 0, .agg #[.int .i64 0, .int .i64 0, .slice Option.none 0 0, .slice Option.none 0 0, .slice Option.none 0 0], .int .i64 0], []⟩).memory :=
  laidMet_of_run' 8 (by kernel_rfl) (by kernel_rfl)
theorem reads (os : Os) {H : Type} (enc : TypeId × Value → H) : ∃ places, DataW.whole enc Tryz.prog ((Crd.laidOver (World.holding Tryz.prog os ⟨#[], #[], []⟩)).forCall (fun _ _ => 0) ⟨#[], #[.slice Option.none 0 0, .agg #[.int .i64 0, .int .i64 0, .slice Option.none 0 0, .slice Option.none 0 0, .slice Option.none 0 0], .int .i64 0], []⟩).memory Tryz.f6.params.toList Rows.fnExactMailChartSpec.vars false #[Value.slice Option.none 0 0, Value.agg #[.int .i64 0, .int .i64 0, .slice Option.none 0 0, .slice Option.none 0 0, .slice Option.none 0 0], Value.int .i64 0].toList 8 = some ([.nil, .agg [.lit (.int .i64 0), .lit (.int .i64 0), .nil, .nil, .nil], .lit (.int .i64 0)], [Rows.laid_loop_example_g00343_impl_stepRules], places) :=
  ⟨MemPlace.row ⟨0, 0, Option.none⟩ 56, by kernel_rfl⟩
set_option maxRecDepth 100000 in
theorem lifted (os : Os) (started : os.Started) (H : Type) (enc : TypeId × Value → H) (F : Stop.Interp) :
    ReturnsInHanded {} Tryz.checked os 6 .any ((OpenSpec.ofChange Rows.fnExactMailChartSpec).preRow enc Tryz.prog Tryz.f6 Rows.fnExactMailChartRow.domain false Rows.fnExactMailChartRow.laid) (((OpenSpec.ofChange Rows.fnExactMailChartSpec).at F).post enc Tryz.prog Tryz.f6 false true false false) := by
  obtain ⟨places, hx⟩ := reads os enc
  refine returnsInHanded_of_row (C := Tryz.checked) (s := OpenSpec.ofChange Rows.fnExactMailChartSpec) Crd.own started (by kernel_rfl) Tryz.func6
    (witness_row_at (enc := enc) (C := Tryz.checked) false (Crd.laidOver (World.holding Tryz.prog os ⟨#[], #[], []⟩)) #[.slice Option.none 0 0, .agg #[.int .i64 0, .int .i64 0, .slice Option.none 0 0, .slice Option.none 0 0, .slice Option.none 0 0], .int .i64 0] rfl (by kernel_rfl) (by kernel_rfl) (by kernel_rfl)
      (OpenSpec.preRow_of_cond 8 hx (by kernel_rfl) (fun k hk => by cases hk) (by kernel_rfl) (laid_met os))) ?_
  intro W base args ds gs before hval hW _ _ _ hL _ _
  exact contract H enc W base args ds gs before hval hW hL
theorem said : Rows.FnExactMailChartSaid :=
  OpenClaim.holds_of_cond 6 Tryz.f6 rfl rfl rfl rfl rfl rfl rfl ⟨rfl, rfl, rfl, rfl, rfl⟩ rfl rfl rfl rfl rfl (by kernel_rfl) Tryz.func6 (by kernel_rfl)
    (of_decide_eq_true (by kernel_rfl)) (by unfold Func.isWrapper; first | (rw [if_pos (by decide +kernel)]; kernel_rfl) | (rw [if_neg (by decide +kernel)]; exact ⟨rfl, rfl⟩))
    (fun os started H enc _ F => by rw [OpenClaim.pre_eq_preRow]; exact lifted os started H enc F)
set_option maxRecDepth 100000 in
theorem plain (f : FuncId) (fn : Func) (hf : Tryz.pinned.checked.prog.funcNamed "loop.example/g00343/laws.FnExactMailChart" = some f) (hfn : Tryz.pinned.checked.prog.funcs[f]? = some fn) :
    true = Tryz.pinned.checked.prog.looks [] ∧ ∀ (j : Nat) t, fn.params[j]? = some t → Tryz.pinned.checked.prog.wantsStandIn t = false := by
  obtain rfl : f = 6 := Option.some.inj ((show Tryz.prog.funcNamed "loop.example/g00343/laws.FnExactMailChart" = some 6 by kernel_rfl).symm.trans hf) |>.symm
  obtain rfl : fn = Tryz.f6 := (Option.some.inj (Tryz.func6.symm.trans hfn)).symm
  refine ⟨by kernel_rfl, fun j t ht => ?_⟩
  rw [Tryz.params6] at ht
  have hm : t = 22 ∨ t = 40 ∨ t = 2 := by simpa using Array.mem_of_getElem? ht
  rcases hm with rfl | rfl | rfl
  · exact (show Tryz.prog.wantsStandIn 22 = false by kernel_rfl)
  · exact (show Tryz.prog.wantsStandIn 40 = false by kernel_rfl)
  · exact (show Tryz.prog.wantsStandIn 2 = false by kernel_rfl)
end KlM
theorem fnExactMailChart_card : Rows.FnExactMailChartCardSaid :=
  Claim7.holds_tied_plain_at .later [] _ _ _ _ KlM.said (fun _ h => by cases h) (by kernel_rfl) (fun _ h => by cases h) fnExactMailChart_row_tie rfl ⟨rfl, rfl⟩ (by kernel_rfl) rfl KlM.plain (by kernel_rfl)
#print axioms fnExactMailChart_card
end Go.Proofs.YtpgbjpfpgbjbeaaGreatDoor
