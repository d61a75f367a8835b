/- Whatever list of steps, list of numbers and number are handed in, StartChart answers as the specification's StartChart does, in code and in the chart, whose rows own their memory, behind another call too, and the arguments read afterwards as before. Condition, tied to the program's own text: the table of rules holds what its initialiser lays. -/
import Derived.Test.YtpgbjpfpgbjbeaaGreatDoorJCh11
import Derived.Test.YtpgbjpfpgbjbeaaGreatDoorJCh12
import Derived.Test.YtpgbjpfpgbjbeaaGreatDoorJCh13
import Derived.Test.YtpgbjpfpgbjbeaaGreatDoorJCh15
import Derived.Test.YtpgbjpfpgbjbeaaGreatDoorJCh47
import Derived.Test.YtpgbjpfpgbjbeaaGreatDoorMKwG
import Derived.Deep.RegionHeld3
import Derived.Deep.Cut
namespace Go.Proofs.YtpgbjpfpgbjbeaaGreatDoor
open Go.ChangeShapes Go.WideShapes Go.ChangeAt Go.RowKit Go.Deep
open Go.ChangeMaps (open_string shut_string)
set_option linter.unusedVariables false
set_option linter.unusedSimpArgs false
namespace KlS
open Ex (hid)
open Pf St
open Ch (RunD)
open Kv (startC startR implStart IPost zeroR set6 below6 heap6)
open Kw (specStartChart SPost)
theorem blk_below {w w' : World} {b : Nat} {o : Obj} (h : w.heap[b]? = some o) (hb : Below w.heap.size w w') : w'.heap[b]? = some o := (hb.block b (Ch.blk_lt h)).trans h
theorem blk_amid {w w' : World} {b B C : Nat} {o : Obj} (h : w.heap[b]? = some o) (hb : Amid w w' B C) (ho : b < B ∨ C ≤ b) : w'.heap[b]? = some o := (hb.block b (Ch.blk_lt h) ho).trans h
theorem blk_within {w w' : World} {b B C : Nat} {o : Obj} (h : w.heap[b]? = some o) (hb : Cr.Within w w' B C) (ho : b < B ∨ C ≤ b) : w'.heap[b]? = some o := (hb.block b (Ch.blk_lt h) ho).trans h
theorem below_amid {D : Nat} {x w w' : World} {B C : Nat} (h : Below D x w) (hx : D ≤ x.heap.size) (ha : Amid w w' B C) (hB : D ≤ B) : Below D x w' := ⟨ha.os.trans h.os, ha.tape.trans h.tape, ha.output.trans h.output, Nat.le_trans h.size ha.size, fun b hb => (ha.block b (Nat.lt_of_lt_of_le (Nat.lt_of_lt_of_le hb hx) h.size) (.inl (Nat.lt_of_lt_of_le hb hB))).trans (h.block b hb)⟩
theorem below_within {D : Nat} {x w w' : World} {B C : Nat} (h : Below D x w) (hx : D ≤ x.heap.size) (ha : Cr.Within w w' B C) (hB : D ≤ B) : Below D x w' := ⟨ha.os.trans h.os, ha.tape.trans h.tape, ha.output.trans h.output, Nat.le_trans h.size ha.size, fun b hb => (ha.block b (Nat.lt_of_lt_of_le (Nat.lt_of_lt_of_le hb hx) h.size) (.inl (Nat.lt_of_lt_of_le hb hB))).trans (h.block b hb)⟩
theorem lensC {es : List StepD} (h : St.Small 1048576 es) : ∀ j, j < es.length → lenC es j ≤ 1048576 := fun j hj => by
  rw [lenC_eq hj]
  have := (h.at hj).2.1
  omega
theorem lensE {es : List StepD} (h : St.Small 1048576 es) : ∀ j, j < es.length → lenE es j ≤ 1048576 := fun j hj => by
  rw [lenE_eq hj]
  have := (h.at hj).2.2
  omega
theorem own_amid {w w' : World} {B C D : Nat} {v1 v2 v3 : Value} {r : RunD} (h : Cr.Own3 w D v1 v2 v3 r) (ha : Amid w w' B C) (hC : C ≤ D) : Cr.Own3 w' D v1 v2 v3 r := h.kept (fun b hb hb2 => ha.block b hb2 (.inr (by omega)))
/-- An answer in a variable. -/
structure Res (wB wx : World) (p : Nat) (s1 s2 s3 : Value) (cc : Int) (rr : RunD) : Prop where
  lo : wB.heap.size ≤ p
  blk : wx.heap[p]? = some (.cells #[.int .i64 cc, .int .i64 rr.status, .int .i64 rr.now, s1, s2, s3] 28)
  lst : Ch.At wx 0 s1 s2 s3 rr
  bel : Below wB.heap.size wB wx
theorem at6 {w : World} {B p : Nat} {v1 v2 v3 : Value} {r : RunD} (h : Ch.At w B v1 v2 v3 r) (hp : p < B) (a0 a1 a2 a3 a4 a5 : Value) : Ch.At ((((((w.setCell ⟨p, 0, none⟩ a0).setCell ⟨p, 1, none⟩ a1).setCell ⟨p, 2, none⟩ a2).setCell ⟨p, 3, none⟩ a3).setCell ⟨p, 4, none⟩ a4).setCell ⟨p, 5, none⟩ a5) B v1 v2 v3 r :=
  ⟨(((((h.vars.setBelow hp _).setBelow hp _).setBelow hp _).setBelow hp _).setBelow hp _).setBelow hp _, (((((h.marks.setBelow hp _).setBelow hp _).setBelow hp _).setBelow hp _).setBelow hp _).setBelow hp _, (((((h.dues.setBelow hp _).setBelow hp _).setBelow hp _).setBelow hp _).setBelow hp _).setBelow hp _⟩
/-- The variable was there ahead of the answer. -/
theorem res_a {wB q : World} {p B : Nat} {s1 s2 s3 : Value} {cc : Int} {rr : RunD} (hB : Below wB.heap.size wB q) (hp : wB.heap.size ≤ p) (hPA : q.heap[p]? = some (.cells #[.int .i64 0, .int .i64 0, .int .i64 0, .slice none 0 0, .slice none 0 0, .slice none 0 0] 28)) (hI : Ch.At q B s1 s2 s3 rr) (hl : p < B) :
    Res wB ((((((q.setCell ⟨p, 0, none⟩ (.int .i64 cc)).setCell ⟨p, 1, none⟩ (.int .i64 rr.status)).setCell ⟨p, 2, none⟩ (.int .i64 rr.now)).setCell ⟨p, 3, none⟩ s1).setCell ⟨p, 4, none⟩ s2).setCell ⟨p, 5, none⟩ s3) p s1 s2 s3 cc rr :=
  ⟨hp, set6 hPA _ _ _ _ _ _, (at6 hI hl _ _ _ _ _ _).mono (Nat.zero_le _), below6 hB hp _ _ _ _ _ _⟩
/-- The variable is newer than the answer. -/
theorem res_b {wB q0 q : World} {p : Nat} {s1 s2 s3 : Value} {cc : Int} {rr : RunD} (hB : Below wB.heap.size wB q) (hp : wB.heap.size ≤ p) (hPA : q.heap[p]? = some (.cells #[.int .i64 0, .int .i64 0, .int .i64 0, .slice none 0 0, .slice none 0 0, .slice none 0 0] 28)) (hI : Ch.At q0 0 s1 s2 s3 rr) (hq : Below q0.heap.size q0 q) (hl : q0.heap.size ≤ p) :
    Res wB ((((((q.setCell ⟨p, 0, none⟩ (.int .i64 cc)).setCell ⟨p, 1, none⟩ (.int .i64 rr.status)).setCell ⟨p, 2, none⟩ (.int .i64 rr.now)).setCell ⟨p, 3, none⟩ s1).setCell ⟨p, 4, none⟩ s2).setCell ⟨p, 5, none⟩ s3) p s1 s2 s3 cc rr :=
  ⟨hp, set6 hPA _ _ _ _ _ _, hI.below (below6 hq hl _ _ _ _ _ _), below6 hB hp _ _ _ _ _ _⟩
theorem new_below (w : World) (o : Obj) : Below w.heap.size w (w.alloc o) := (Below.refl _ w).alloc (Nat.le_refl _) _
theorem rr_small {n : Int} {w : World} {B : Nat} {v1 v2 v3 : Value} {r : RunD} (h : r.vars.length ≤ 1048576 ∧ r.marks.length ≤ 1048576 ∧ r.dues.length ≤ 1048576) : Ch.Small 1048576 r := ⟨by omega, by omega, by omega⟩
theorem own_c {w : World} {B C : Nat} {v : Value} {m : Nat} (h : Nu.Own w B C v m) : Ch.OwnC w B C v m := by
  obtain ⟨g, f, rfl, h1, h2, h3⟩ := h
  exact ⟨g, f, rfl, h1, h2, h3⟩
set_option maxRecDepth 100000 in
set_option maxHeartbeats 32000000 in
theorem walk (l : List StepD) (v : Value) (vs : List Int) (vv : Value) (x : Int) (w : World) (hl : l.length ≤ maxLen) (kl : St.Ok l) (hlv : vs.length ≤ maxLen) (h1 : St.At w 0 v l) (h3 : Nu.At w 0 vv vs) (hr : Rul w) :
    Calls Tryz.prog 3 #[v, vv, .int .i64 x] w fun e w' => e = .returned (.bool true) ∧ Below w.heap.size w w' := by
  have hgl := hr.lt
  obtain ⟨b0, k0, rfl⟩ := h1.slice
  obtain ⟨bv, kv, rfl⟩ := h3.slice
  obtain ⟨w0, e0⟩ : ∃ w0, w0 = w := ⟨_, rfl⟩
  have hb0 : Below w.heap.size w w0 := by rw [e0]; exact Below.refl _ _
  have HZ1 := hid (szS 0 l _ 1048576 w0 (by omega) (by omega) hl kl (h1.below hb0))
  have H1 := hid h1
  have H3 := hid h3
  have HR := hid hr
  have HB0 := hid hb0
  clear h1 hl kl hr hb0 h3
  unfold maxLen at hlv
  by_cases qv : (1048576 : Int) < (vs.length : Int)
  · go_enter Tryz.func3, Tryz.ntmps3
    go_wp2
    go_ret
    exact ⟨rfl, Below.refl _ _⟩
  have hvl : vs.length ≤ 1048576 := by omega
  subst e0
  go_enter Tryz.func3, Tryz.ntmps3
  go_wp2_with fail
  refine HZ1.out.mono ?_
  rintro e w1 ⟨⟨r1, rfl, r1a, r1b, r1c⟩, hb1⟩
  have HB1 := hid (HB0.out.trans (hb1.mono HB0.out.size))
  clear hb1 HZ1 HB0
  by_cases q1 : r1 < 0
  · go_wp2
    go_ret
    exact ⟨rfl, HB1.out⟩
  have S1 := hid (r1c (by omega))
  clear r1c
  obtain ⟨w2, e2⟩ : ∃ w2, w2 = w1 := ⟨_, rfl⟩
  have HB2 : Hid (Below w0.heap.size w0 w2) := hid (by rw [e2]; exact HB1.out)
  rw [← e2]
  clear e2 HB1
  have hln := S1.out.1
  have HT1 := hid (fun w' (hb : Below w0.heap.size w0 w') => toS 0 l _ w' S1.out (H1.out.below hb))
  have HT2 := hid (fun w' (hb : Below w0.heap.size w0 w') => toS2 0 l _ w' S1.out (H1.out.below hb))
  have HV1 := hid (fun w' (hb : Below w0.heap.size w0 w') => Nu.toS 0 vs _ w' hvl (H3.out.below hb))
  have HV2 := hid (fun w' (hb : Below w0.heap.size w0 w') => Nu.toS2 0 vs _ w' hvl (H3.out.below hb))
  have HIK := hid (fun u uv w' (hb : Below w0.heap.size w0 w') (hu : St.At w' 0 u l) (hv : Nu.At w' 0 uv vs) => implStart l vs x u uv w' S1.out hvl hu hv (HR.out.below hb hgl))
  have HSK := hid (fun B u uv w' (hu : St.At w' B u l) (hv : Nu.At w' 0 uv vs) => specStartChart B l vs x u uv w' S1.out hvl hu hv)
  have hrs : (startR l vs x).vars.length ≤ 1048576 ∧ (startR l vs x).marks.length ≤ 1048576 ∧ (startR l vs x).dues.length ≤ 1048576 := Kv.start_small
  clear H1 H3
  generalize hcc : startC l vs x = cc at *
  generalize hxx : startR l vs x = rr at *
  clear hcc hxx
  have SR : Hid (Ch.Small 1048576 rr) := hid ⟨by omega, by omega, by omega⟩
  clear hrs
  have HBs : Hid (Below w2.heap.size w2 w2) := hid (Below.refl _ _)
  go_wp2_with fail
  refine (HT1.out _ HB2.out).mono ?_
  rintro e q1 ⟨u1, rfl, hu1, hb1⟩
  obtain ⟨x0, y0, rfl⟩ := hu1.slice
  have U1 := hid hu1
  clear hu1
  have BW1 := hid (HB2.out.trans (hb1.mono HB2.out.size))
  have BS1 := hid (HBs.out.trans (hb1.mono HBs.out.size))
  clear hb1
  go_wp2_with fail
  refine (HV1.out _ BW1.out).mono ?_
  rintro e q2 ⟨u2, rfl, hu3, hb2⟩
  obtain ⟨x9, y9, rfl⟩ := hu3.slice
  have VV2 := hid (hu3.mono (Nat.zero_le _))
  clear hu3
  have BW2 := hid (BW1.out.trans (hb2.mono BW1.out.size))
  have BS2 := hid (BS1.out.trans (hb2.mono BS1.out.size))
  have Ux2 := hid (U1.out.below hb2)
  clear hb2
  go_wp2_with fail
  refine (HSK.out _ _ _ _ Ux2.out VV2.out).mono ?_
  rintro e q3 ⟨s1, s2, s3, rfl, hI, hb3⟩
  have II3 := hid hI
  obtain ⟨m1, n1, rfl⟩ := hI.vars.slice
  obtain ⟨m2, n2, rfl⟩ := hI.marks.slice
  obtain ⟨m3, n3, rfl⟩ := hI.dues.slice
  clear hI
  have BW3 := hid (BW2.out.trans (hb3.mono BW2.out.size))
  have BS3 := hid (BS2.out.trans (hb3.mono BS2.out.size))
  clear hb3
  obtain ⟨wc, ewc⟩ : ∃ wc, wc = q3.alloc (.cells #[.int .i64 cc, .int .i64 rr.status, .int .i64 rr.now, .slice m1 rr.vars.length n1, .slice m2 rr.marks.length n2, .slice m3 rr.dues.length n3] 28) := ⟨_, rfl⟩
  have hbc : Below q3.heap.size q3 wc := by rw [ewc]; exact new_below q3 _
  obtain ⟨p, ep⟩ : ∃ p, p = q3.heap.size := ⟨_, rfl⟩
  have HRS : Hid (Res w2 wc p (.slice m1 rr.vars.length n1) (.slice m2 rr.marks.length n2) (.slice m3 rr.dues.length n3) cc rr) := hid ⟨by rw [ep]; exact BS3.out.size, by rw [ewc, ep]; exact Ch.new_blk _ _, (II3.out.mono (Nat.zero_le _)).below hbc, BS3.out.trans (hbc.mono BS3.out.size)⟩
  have EP := hid ep
  have EWC := hid ewc
  clear hbc ep ewc
  have B3 := HB2.out.trans (HRS.out.bel.mono HB2.out.size)
  have PP := hid HRS.out.blk
  have I0 := hid HRS.out.lst
  have hpl := Ch.blk_lt PP.out
  clear HRS HB2 HSK HBs
  go_wp2_with fail
  rw [← EWC.out, ← EP.out]
  clear EWC EP
  refine (HT2.out _ B3).mono ?_
  rintro e w5 ⟨u5, rfl, hu5, hw5, hb5⟩
  obtain ⟨x0, y0, rfl⟩ := hu5.slice
  have B5 := B3.trans (hb5.mono B3.size)
  have C5 := hid hb5
  have U5 := hid (hu5.mono (Nat.zero_le _))
  have W5 := hid hw5
  have l5 := hb5.size
  clear hu5 hw5 hb5
  go_wp2_with fail
  refine (HV2.out _ B5).mono ?_
  rintro e w8 ⟨u8, rfl, hu8, hv8, hb8⟩
  obtain ⟨xv, yv, rfl⟩ := hu8.slice
  have l8 := hb8.size
  have B8 := B5.trans (hb8.mono B5.size)
  have C8 := hid (C5.out.trans (hb8.mono C5.out.size))
  have U8 := hid (U5.out.below hb8)
  have W8 := hid (W5.out.below hb8)
  have V8 := hid (hu8.mono (Nat.zero_le _))
  have N8 := hid (own_c hv8)
  clear hu8 hv8 hb8 U5 W5 C5
  have HIM := hid (HIK.out _ _ w8 B8 U8.out V8.out)
  go_wp2_with fail
  refine HIM.out.mono ?_
  rintro e w9 ⟨g1, g2, g3, rfl, hO9, hb9⟩
  obtain ⟨h1, i1, rfl⟩ := Ints.owns_slice hO9.vars
  obtain ⟨h2, i2, rfl⟩ := Ints.owns_slice hO9.marks
  obtain ⟨h3, i3, rfl⟩ := Ints.owns_slice hO9.dues
  obtain ⟨wa, ea⟩ : ∃ wa, wa = w9.alloc (.cells #[.int .i64 cc, .int .i64 rr.status, .int .i64 rr.now, .slice h1 rr.vars.length i1, .slice h2 rr.marks.length i2, .slice h3 rr.dues.length i3] 28) := ⟨_, rfl⟩
  have hxa : Below w9.heap.size w9 wa := by rw [ea]; exact new_below w9 _
  have hba : Below w8.heap.size w8 wa := hb9.trans (hxa.mono hb9.size)
  obtain ⟨G, eG⟩ : ∃ G, G = w9.heap.size := ⟨_, rfl⟩
  have Ga : Hid (wa.heap[G]? = some (.cells #[.int .i64 cc, .int .i64 rr.status, .int .i64 rr.now, .slice h1 rr.vars.length i1, .slice h2 rr.marks.length i2, .slice h3 rr.dues.length i3] 28)) := hid (by rw [ea, eG]; exact Ch.new_blk _ _)
  have na : w9.heap.size < wa.heap.size := by rw [ea]; simp
  have l9 := hb9.size
  have LG := hid eG
  have HIN : Hid (∀ b, (Value.slice h1 rr.vars.length i1).ownBlock = some b ∨ (Value.slice h2 rr.marks.length i2).ownBlock = some b ∨ (Value.slice h3 rr.dues.length i3).ownBlock = some b → b < G) := hid (fun b e => by rw [eG]; rcases e with e | e | e; exact (Cr.own_in hO9.vars e).2; exact (Cr.own_in hO9.marks e).2; exact (Cr.own_in hO9.dues e).2)
  have Oa := hid (hO9.below hxa)
  have Ba := B8.trans (hba.mono B8.size)
  have Ca := hid (C8.out.trans (hba.mono C8.out.size))
  have Ua := hid (U8.out.below hba)
  have Wa := hid (W8.out.below hba)
  have Va := hid (V8.out.below hba)
  have Na := hid (N8.out.below hba)
  have P9 := blk_below PP.out (C8.out.trans (hb9.mono C8.out.size))
  have pp0 := Ch.blk_cell P9 0
  have pp1 := Ch.blk_cell P9 1
  have pp2 := Ch.blk_cell P9 2
  have pp3 := Ch.blk_cell P9 3
  have pp4 := Ch.blk_cell P9 4
  have pp5 := Ch.blk_cell P9 5
  have ppl := Ch.blk_lt P9
  have EA := hid ea
  clear P9 hO9 hb9 hxa hba U8 W8 C8 HIM eG ea V8 N8
  go_wp2_with fail
  rw [← EA.out, ← LG.out]
  clear EA
  refine (Cr.eqR _ _ cc rr _ _ _ _ _ _ wa SR.out Oa.out.at' (I0.out.below Ca.out)).mono ?_
  rintro e wb ⟨rfl, hbb⟩
  clear pp0 pp1 pp2 pp3 pp4 pp5 ppl
  have Gb : Hid (wb.heap[G]? = some (.cells #[.int .i64 cc, .int .i64 rr.status, .int .i64 rr.now, .slice h1 rr.vars.length i1, .slice h2 rr.marks.length i2, .slice h3 rr.dues.length i3] 28)) := hid (blk_below Ga.out hbb)
  have Ob := hid (Oa.out.below hbb)
  have Ub := hid (Ua.out.below hbb)
  have Wb := hid (Wa.out.below hbb)
  have Vb := hid (Va.out.below hbb)
  have Nb := hid (Na.out.below hbb)
  have Bb := Ba.trans (hbb.mono Ba.size)
  have Cb := hid (Ca.out.trans (hbb.mono Ca.out.size))
  have sb := hbb.size
  clear Ga Oa Ua Wa Va Na Ca
  clear hbb
  go_wp2_with fail
  refine (HT1.out _ Bb).mono ?_
  rintro e wd ⟨u3, rfl, hu4, hbd⟩
  obtain ⟨x7, y7, rfl⟩ := hu4.slice
  have HEQ := hid (eqS _ _ l _ _ wd S1.out (Ub.out.below hbd) hu4)
  have Gd : Hid (wd.heap[G]? = some (.cells #[.int .i64 cc, .int .i64 rr.status, .int .i64 rr.now, .slice h1 rr.vars.length i1, .slice h2 rr.marks.length i2, .slice h3 rr.dues.length i3] 28)) := hid (blk_below Gb.out hbd)
  have Od := hid (Ob.out.below hbd)
  have Ud := hid (Ub.out.below hbd)
  have Wd := hid (Wb.out.below hbd)
  have Vd := hid (Vb.out.below hbd)
  have Nd := hid (Nb.out.below hbd)
  have Bd := Bb.trans (hbd.mono Bb.size)
  have Cd := hid (Cb.out.trans (hbd.mono Cb.out.size))
  have sd := hbd.size
  clear Gb Ob Ub Wb Vb Nb Cb
  clear hu4 hbd
  go_wp2_with fail
  refine HEQ.out.mono ?_
  rintro e we ⟨rfl, hbe⟩
  have Ge : Hid (we.heap[G]? = some (.cells #[.int .i64 cc, .int .i64 rr.status, .int .i64 rr.now, .slice h1 rr.vars.length i1, .slice h2 rr.marks.length i2, .slice h3 rr.dues.length i3] 28)) := hid (blk_below Gd.out hbe)
  have Oe := hid (Od.out.below hbe)
  have Ue := hid (Ud.out.below hbe)
  have We := hid (Wd.out.below hbe)
  have Ve := hid (Vd.out.below hbe)
  have Ne := hid (Nd.out.below hbe)
  have Be := Bd.trans (hbe.mono Bd.size)
  have Ce := hid (Cd.out.trans (hbe.mono Cd.out.size))
  have se := hbe.size
  clear Gd Od Ud Wd Vd Nd Cd
  clear hbe HEQ
  go_wp2_with fail
  refine (HV1.out _ Be).mono ?_
  rintro e wh ⟨u3, rfl, hu4, hbh⟩
  obtain ⟨x8, y8, rfl⟩ := hu4.slice
  have HEQ := hid (Nu.eqS _ _ vs _ _ wh hvl (Ve.out.below hbh) hu4)
  have Gh : Hid (wh.heap[G]? = some (.cells #[.int .i64 cc, .int .i64 rr.status, .int .i64 rr.now, .slice h1 rr.vars.length i1, .slice h2 rr.marks.length i2, .slice h3 rr.dues.length i3] 28)) := hid (blk_below Ge.out hbh)
  have Oh := hid (Oe.out.below hbh)
  have Wh := hid (We.out.below hbh)
  have Vh := hid (Ve.out.below hbh)
  have Nh := hid (Ne.out.below hbh)
  have Bh := Be.trans (hbh.mono Be.size)
  have Ch := hid (Ce.out.trans (hbh.mono Ce.out.size))
  have sh := hbh.size
  clear Ge Oe We Ve Ne Ce
  clear hu4 hbh
  go_wp2_with fail
  refine HEQ.out.mono ?_
  rintro e wi ⟨rfl, hbi⟩
  have Gi : Hid (wi.heap[G]? = some (.cells #[.int .i64 cc, .int .i64 rr.status, .int .i64 rr.now, .slice h1 rr.vars.length i1, .slice h2 rr.marks.length i2, .slice h3 rr.dues.length i3] 28)) := hid (blk_below Gh.out hbi)
  have Oi := hid (Oh.out.below hbi)
  have Wi := hid (Wh.out.below hbi)
  have Ni := hid (Nh.out.below hbi)
  have Bi := Bh.trans (hbi.mono Bh.size)
  have Ci := hid (Ch.out.trans (hbi.mono Ch.out.size))
  have si := hbi.size
  clear Gh Oh Wh Nh Ch
  clear hbi HEQ Vh Ue
  go_wp2_with fail
  refine (markSteps _ _ _ l.length (lenC l) (lenE l) _ (by omega) (lensC S1.out) (lensE S1.out) Wi.out).mono ?_
  rintro e wj ⟨⟨rj, rfl, hrj⟩, ham⟩
  have Gj : Hid (wj.heap[G]? = some (.cells #[.int .i64 cc, .int .i64 rr.status, .int .i64 rr.now, .slice h1 rr.vars.length i1, .slice h2 rr.marks.length i2, .slice h3 rr.dues.length i3] 28)) := hid (blk_amid Gi.out ham (.inr (by have := LG.out; omega)))
  have Oj := hid (own_amid Oi.out ham (by omega))
  have Nj := hid (Ni.out.amid ham (by omega))
  have Bj := below_amid Bi (Nat.le_refl _) ham (by have := B3.size; omega)
  have Cj := hid (below_amid Ci.out (Nat.le_refl _) ham (by omega))
  have sj := ham.size
  clear Gi Oi Ni Ci
  clear ham Wi
  obtain ⟨gv, fv, ev, hgv, hgv2, hrow⟩ := Nj.out
  cases ev
  have HML := hid (Ch.markL gv vs.length fv rj wj hvl (by omega) (by omega) hrow)
  have NN := hid (And.intro hgv hgv2)
  clear hrow Nj
  go_wp2_with fail
  refine HML.out.mono ?_
  rintro e wl ⟨rfl, _, ham⟩
  have Gl : Hid (wl.heap[G]? = some (.cells #[.int .i64 cc, .int .i64 rr.status, .int .i64 rr.now, .slice h1 rr.vars.length i1, .slice h2 rr.marks.length i2, .slice h3 rr.dues.length i3] 28)) := hid (blk_amid Gj.out ham (.inr (by have := LG.out; omega)))
  have Ol := hid (own_amid Oj.out ham (by omega))
  have Bl := below_amid Bj (Nat.le_refl _) ham (by have := B3.size; omega)
  have Cl := hid (below_amid Cj.out (Nat.le_refl _) ham (by omega))
  have sl := ham.size
  clear Gj Oj Cj
  clear ham HML
  have qk : ¬ (rj + (vs.length : Int)) < 0 := by omega
  have PX := blk_below PP.out Cl.out
  have pp0 := Ch.blk_cell PX 0
  have pp1 := Ch.blk_cell PX 1
  have pp2 := Ch.blk_cell PX 2
  have pp3 := Ch.blk_cell PX 3
  have pp4 := Ch.blk_cell PX 4
  have pp5 := Ch.blk_cell PX 5
  have ppl := Ch.blk_lt PX
  clear PX
  have pg0 := Ch.blk_cell Gl.out 0
  have pg1 := Ch.blk_cell Gl.out 1
  have pg2 := Ch.blk_cell Gl.out 2
  have pg3 := Ch.blk_cell Gl.out 3
  have pg4 := Ch.blk_cell Gl.out 4
  have pg5 := Ch.blk_cell Gl.out 5
  have pgl := Ch.blk_lt Gl.out
  go_wp2_with fail
  refine (Cr.eqR _ _ cc rr _ _ _ _ _ _ wl SR.out Ol.out.at' (I0.out.below Cl.out)).mono ?_
  rintro e wm ⟨rfl, hbm⟩
  clear pp0 pp1 pp2 pp3 pp4 pp5 ppl
  clear pg0 pg1 pg2 pg3 pg4 pg5 pgl
  have Gm : Hid (wm.heap[G]? = some (.cells #[.int .i64 cc, .int .i64 rr.status, .int .i64 rr.now, .slice h1 rr.vars.length i1, .slice h2 rr.marks.length i2, .slice h3 rr.dues.length i3] 28)) := hid (blk_below Gl.out hbm)
  have Om := hid (Ol.out.below hbm)
  have Bm := Bl.trans (hbm.mono Bl.size)
  have Cm := hid (Cl.out.trans (hbm.mono Cl.out.size))
  have sm := hbm.size
  clear Gl Ol Cl
  clear hbm
  have pg0 := Ch.blk_cell Gm.out 0
  have pg1 := Ch.blk_cell Gm.out 1
  have pg2 := Ch.blk_cell Gm.out 2
  have pg3 := Ch.blk_cell Gm.out 3
  have pg4 := Ch.blk_cell Gm.out 4
  have pg5 := Ch.blk_cell Gm.out 5
  have pgl := Ch.blk_lt Gm.out
  go_wp2_with fail
  refine (Cr.markR _ G rr cc _ _ _ wm SR.out (Nat.le_of_lt pgl) Om.out HIN.out).mono ?_
  rintro e wn ⟨rfl, hon, hwn⟩
  clear pg0 pg1 pg2 pg3 pg4 pg5 pgl
  have Gn : Hid (wn.heap[G]? = some (.cells #[.int .i64 cc, .int .i64 rr.status, .int .i64 rr.now, .slice h1 rr.vars.length i1, .slice h2 rr.marks.length i2, .slice h3 rr.dues.length i3] 28)) := hid (blk_within Gm.out hwn (.inr (Nat.le_refl _)))
  have Mn := hid hon
  have Bn := below_within Bm (Nat.le_refl _) hwn (by have := B3.size; omega)
  have Cn := hid (below_within Cm.out (Nat.le_refl _) hwn (by omega))
  have sn := hwn.size
  clear hon hwn Gm Om Cm
  have pg0 := Ch.blk_cell Gn.out 0
  have pg1 := Ch.blk_cell Gn.out 1
  have pg2 := Ch.blk_cell Gn.out 2
  have pg3 := Ch.blk_cell Gn.out 3
  have pg4 := Ch.blk_cell Gn.out 4
  have pg5 := Ch.blk_cell Gn.out 5
  have pgl := Ch.blk_lt Gn.out
  go_wp2_with fail
  refine (Cr.heldR _ rr cc _ _ _ wn SR.out Mn.out.at').mono ?_
  rintro e wo ⟨rfl, hbo⟩
  clear pg0 pg1 pg2 pg3 pg4 pg5 pgl
  have Go : Hid (wo.heap[G]? = some (.cells #[.int .i64 cc, .int .i64 rr.status, .int .i64 rr.now, .slice h1 rr.vars.length i1, .slice h2 rr.marks.length i2, .slice h3 rr.dues.length i3] 28)) := hid (blk_below Gn.out hbo)
  have Mo := hid (Mn.out.below hbo)
  have Bo := Bn.trans (hbo.mono Bn.size)
  have Co := hid (Cn.out.trans (hbo.mono Cn.out.size))
  have so := hbo.size
  clear Gn Mn Cn
  clear hbo
  have qq1 : ¬ (1 + (rr.vars.length : Int) + (rr.marks.length : Int) + (rr.dues.length : Int)) < 0 := by omega
  have qq2 : ((1 + (rr.vars.length : Int) + (rr.marks.length : Int) + (rr.dues.length : Int)) != (1 + (rr.vars.length : Int) + (rr.marks.length : Int) + (rr.dues.length : Int))) = false := by simp
  have HBo := hid Bo
  have HBs : Hid (Below wo.heap.size wo wo) := hid (Below.refl _ _)
  go_wp2_with fail
  refine (HT1.out _ HBo.out).mono ?_
  rintro e q1 ⟨u1, rfl, hu1, hb1⟩
  obtain ⟨x0, y0, rfl⟩ := hu1.slice
  have U1 := hid hu1
  clear hu1
  have BW1 := hid (HBo.out.trans (hb1.mono HBo.out.size))
  have BS1 := hid (HBs.out.trans (hb1.mono HBs.out.size))
  clear hb1
  go_wp2_with fail
  refine (HV1.out _ BW1.out).mono ?_
  rintro e q2 ⟨u2, rfl, hu3, hb2⟩
  obtain ⟨x9, y9, rfl⟩ := hu3.slice
  have VV2 := hid (hu3.mono (Nat.zero_le _))
  clear hu3
  have BW2 := hid (BW1.out.trans (hb2.mono BW1.out.size))
  have BS2 := hid (BS1.out.trans (hb2.mono BS1.out.size))
  have Ux2 := hid (U1.out.below hb2)
  clear hb2
  go_wp2_with fail
  refine (HIK.out _ _ _ BW2.out (Ux2.out.mono (Nat.zero_le _)) VV2.out).mono ?_
  rintro e q3 ⟨s1, s2, s3, rfl, hO, hb3⟩
  have hI := hO.at'
  have II3 := hid hI
  obtain ⟨m1, n1, rfl⟩ := hI.vars.slice
  obtain ⟨m2, n2, rfl⟩ := hI.marks.slice
  obtain ⟨m3, n3, rfl⟩ := hI.dues.slice
  clear hI hO
  have BW3 := hid (BW2.out.trans (hb3.mono BW2.out.size))
  have BS3 := hid (BS2.out.trans (hb3.mono BS2.out.size))
  clear hb3
  obtain ⟨wy, ewc⟩ : ∃ wy, wy = q3.alloc (.cells #[.int .i64 cc, .int .i64 rr.status, .int .i64 rr.now, .slice m1 rr.vars.length n1, .slice m2 rr.marks.length n2, .slice m3 rr.dues.length n3] 28) := ⟨_, rfl⟩
  have hbc : Below q3.heap.size q3 wy := by rw [ewc]; exact new_below q3 _
  obtain ⟨p9, ep⟩ : ∃ p9, p9 = q3.heap.size := ⟨_, rfl⟩
  have HRS : Hid (Res wo wy p9 (.slice m1 rr.vars.length n1) (.slice m2 rr.marks.length n2) (.slice m3 rr.dues.length n3) cc rr) := hid ⟨by rw [ep]; exact BS3.out.size, by rw [ewc, ep]; exact Ch.new_blk _ _, (II3.out.mono (Nat.zero_le _)).below hbc, BS3.out.trans (hbc.mono BS3.out.size)⟩
  have EP := hid ep
  have EWC := hid ewc
  clear hbc ep ewc
  have CQ := hid (Co.out.trans (BS3.out.mono Co.out.size))
  have hxc := HRS.out.bel
  have Bc := Bo.trans (hxc.mono Bo.size)
  have Cc := hid (Co.out.trans (hxc.mono Co.out.size))
  have PH := hid HRS.out.blk
  have J0 := hid HRS.out.lst
  have Gc : Hid (wy.heap[G]? = some (.cells #[.int .i64 cc, .int .i64 rr.status, .int .i64 rr.now, .slice h1 rr.vars.length i1, .slice h2 rr.marks.length i2, .slice h3 rr.dues.length i3] 28)) := hid (blk_below Go.out hxc)
  have Mc := hid (Mo.out.below hxc)
  clear HRS Go Mo Co hxc
  have PX := blk_below PP.out CQ.out
  have pp0 := Ch.blk_cell PX 0
  have pp1 := Ch.blk_cell PX 1
  have pp2 := Ch.blk_cell PX 2
  have pp3 := Ch.blk_cell PX 3
  have pp4 := Ch.blk_cell PX 4
  have pp5 := Ch.blk_cell PX 5
  have ppl := Ch.blk_lt PX
  clear PX
  go_wp2_with fail
  rw [← EWC.out, ← EP.out]
  clear EWC EP
  refine (Cr.eqR _ _ cc rr _ _ _ _ _ _ wy SR.out J0.out (I0.out.below Cc.out)).mono ?_
  rintro e wz ⟨rfl, hbz⟩
  clear pp0 pp1 pp2 pp3 pp4 pp5 ppl
  have Gz : Hid (wz.heap[G]? = some (.cells #[.int .i64 cc, .int .i64 rr.status, .int .i64 rr.now, .slice h1 rr.vars.length i1, .slice h2 rr.marks.length i2, .slice h3 rr.dues.length i3] 28)) := hid (blk_below Gc.out hbz)
  have Mz := hid (Mc.out.below hbz)
  have Bz := Bc.trans (hbz.mono Bc.size)
  clear hbz Gc Mc
  have pg0 := Ch.blk_cell Gz.out 0
  have pg1 := Ch.blk_cell Gz.out 1
  have pg2 := Ch.blk_cell Gz.out 2
  have pg3 := Ch.blk_cell Gz.out 3
  have pg4 := Ch.blk_cell Gz.out 4
  have pg5 := Ch.blk_cell Gz.out 5
  have pgl := Ch.blk_lt Gz.out
  go_wp2_with fail
  refine (Cr.heldR _ rr cc _ _ _ wz SR.out Mz.out.at').mono ?_
  rintro e wq ⟨rfl, hbq⟩
  have Bq := Bz.trans (hbq.mono Bz.size)
  go_wp2
  go_ret
  exact ⟨rfl, Bq⟩
set_option maxRecDepth 100000 in
theorem contract (H : Type) (enc : TypeId × Value → H) (W : World) (base : Nat) (args : Array Value) (ds gs : List (DataW H)) (before : List MemPlace)
    (hval : ∀ (j : Nat) t v, Tryz.f3.params[j]? = some t → args[j]? = some v → Value.okWide Tryz.prog W .any base t v)
    (hW : DataW.Whole enc Tryz.prog Tryz.f3.params.toList Rows.fnExactStartChartSpec.vars false W args.toList ds gs before) (hL : laidMetH Tryz.prog Rows.fnExactStartChartRow.laid W) :
    Calls Tryz.prog 3 args W fun e W' => ∃ v, e = .returned v ∧ Rows.fnExactStartChartSpec.post enc Tryz.prog Tryz.f3 false true false false W args v W' := by
  have hent := Crd.rul_of hL
  have hW' := hW
  obtain ⟨p, q, hA0, hV, rfl, hfz, hnd⟩ := hW
  have hA : DataW.TrodAll enc Tryz.prog W 0 (fun _ => true) true Tryz.f3.params.toList args.toList ds p := hA0
  rw [Tryz.params3] at hA hval
  obtain ⟨v0, vs0, d0, ds0, p0, q0, hargs, rfl, rfl, h0, r0⟩ := trodAll_cons hA
  obtain ⟨v1, vs1, d1, ds1, p1, q1, rfl, rfl, rfl, h1, r1⟩ := trodAll_cons r0
  obtain ⟨v2, vs2, d2, ds2, p2, q2, rfl, rfl, rfl, h2, r2⟩ := trodAll_cons r1
  obtain ⟨rfl, rfl, rfl⟩ := trodAll_nil r2
  obtain rfl : args = #[v0, v1, v2] := by cases args; simp_all
  obtain ⟨a0, len0, cap0, rfl⟩ := okWide_slice Tryz.underlying22 (hval 0 22 v0 rfl rfl)
  have k0 := h0
  have lt0 : ∀ x ∈ p0, x.block < W.heap.size := by obtain ⟨m, hm⟩ := k0; exact DataW.trod_lt m _ _ _ hm
  obtain ⟨l0, ga0, gb0, gc0⟩ : ∃ es, St.At W 0 (.slice a0 len0 cap0) es ∧ St.Ok es ∧ es.length ≤ maxLen := by
    obtain ⟨fuel, hf⟩ := h0
    exact St.open_all (by simpa [Value.cells] using hf)
  obtain ⟨a1, len1, cap1, rfl⟩ := okWide_slice Tryz.underlying23 (hval 1 23 v1 rfl rfl)
  have k1 := h1
  have lt1 : ∀ x ∈ p1, x.block < W.heap.size := by obtain ⟨m, hm⟩ := k1; exact DataW.trod_lt m _ _ _ hm
  obtain ⟨l1, ga1, gc1⟩ : ∃ es, Nu.At W 0 (.slice a1 len1 cap1) es ∧ es.length ≤ maxLen := by
    obtain ⟨fuel, hf⟩ := h1
    exact Nu.open_all (by simpa [Value.cells] using hf)
  obtain ⟨x2, rfl, rfl, rfl, wx2⟩ := open_int Tryz.underlying2 (hval 2 2 v2 rfl rfl) h2
  clear hA0
  refine (walk l0 _ l1 _ x2 W gc0 gb0 gc1 ga0 ga1 hent).mono fun e W' ⟨he, bel⟩ => ?_
  subst he
  have hV0 := hV
  obtain ⟨g, t, cs, fuel, dv, pv, rfl, hg, ht, hvar, hd, rfl⟩ := trodVars_one hV
  have hv' := Below.trodVars Crd.laidOut bel (ns := Rows.fnExactStartChartSpec.vars) (by kernel_rfl) hV0
  exact ⟨_, rfl, _, _, _, [], _, _, hW', trodAll_mk1 (shut_bool Tryz.underlying4 _), (trodAll_cons_mk (Below.trod Crd.laidOut (by kernel_rfl) (of_decide_eq_true (by kernel_rfl)) k0 bel lt0) (trodAll_cons_mk (Below.trod Crd.laidOut (by kernel_rfl) (of_decide_eq_true (by kernel_rfl)) k1 bel lt1) (trodAll_cons_mk (shut_int Tryz.underlying2 wx2) trodAll_mk0))), hv', bel.frame _, fun h => by cases h⟩
theorem laid_met (os : Os) : laidMet Tryz.prog Rows.fnExactStartChartRow.laid ((Crd.laidOver (World.holding Tryz.prog os ⟨#[], #[], []⟩)).forCall (fun _ _ => 0) ⟨#[], #[.slice Option.none 0 0, .slice Option.none 0 0, .int .i64 0], []⟩).memory :=
  laidMet_of_run' 8 (by kernel_rfl) (by kernel_rfl)
theorem reads (os : Os) {H : Type} (enc : TypeId × Value → H) : ∃ places, DataW.whole enc Tryz.prog ((Crd.laidOver (World.holding Tryz.prog os ⟨#[], #[], []⟩)).forCall (fun _ _ => 0) ⟨#[], #[.slice Option.none 0 0, .slice Option.none 0 0, .int .i64 0], []⟩).memory Tryz.f3.params.toList Rows.fnExactStartChartSpec.vars false #[Value.slice Option.none 0 0, Value.slice Option.none 0 0, Value.int .i64 0].toList 8 = some ([.nil, .nil, .lit (.int .i64 0)], [Rows.laid_loop_example_g00343_impl_stepRules], places) :=
  ⟨MemPlace.row ⟨0, 0, Option.none⟩ 56, by kernel_rfl⟩
set_option maxRecDepth 100000 in
theorem lifted (os : Os) (started : os.Started) (H : Type) (enc : TypeId × Value → H) (F : Stop.Interp) :
    ReturnsInHanded {} Tryz.checked os 3 .any ((OpenSpec.ofChange Rows.fnExactStartChartSpec).preRow enc Tryz.prog Tryz.f3 Rows.fnExactStartChartRow.domain false Rows.fnExactStartChartRow.laid) (((OpenSpec.ofChange Rows.fnExactStartChartSpec).at F).post enc Tryz.prog Tryz.f3 false true false false) := by
  obtain ⟨places, hx⟩ := reads os enc
  refine returnsInHanded_of_row (C := Tryz.checked) (s := OpenSpec.ofChange Rows.fnExactStartChartSpec) Crd.own started (by kernel_rfl) Tryz.func3
    (witness_row_at (enc := enc) (C := Tryz.checked) false (Crd.laidOver (World.holding Tryz.prog os ⟨#[], #[], []⟩)) #[.slice Option.none 0 0, .slice Option.none 0 0, .int .i64 0] rfl (by kernel_rfl) (by kernel_rfl) (by kernel_rfl)
      (OpenSpec.preRow_of_cond 8 hx (by kernel_rfl) (fun k hk => by cases hk) (by kernel_rfl) (laid_met os))) ?_
  intro W base args ds gs before hval hW _ _ _ hL _ _
  exact contract H enc W base args ds gs before hval hW hL
theorem said : Rows.FnExactStartChartSaid :=
  OpenClaim.holds_of_cond 3 Tryz.f3 rfl rfl rfl rfl rfl rfl rfl ⟨rfl, rfl, rfl, rfl, rfl⟩ rfl rfl rfl rfl rfl (by kernel_rfl) Tryz.func3 (by kernel_rfl)
    (of_decide_eq_true (by kernel_rfl)) (by unfold Func.isWrapper; first | (rw [if_pos (by decide +kernel)]; kernel_rfl) | (rw [if_neg (by decide +kernel)]; exact ⟨rfl, rfl⟩))
    (fun os started H enc _ F => by rw [OpenClaim.pre_eq_preRow]; exact lifted os started H enc F)
set_option maxRecDepth 100000 in
theorem plain (f : FuncId) (fn : Func) (hf : Tryz.pinned.checked.prog.funcNamed "loop.example/g00343/laws.FnExactStartChart" = some f) (hfn : Tryz.pinned.checked.prog.funcs[f]? = some fn) :
    true = Tryz.pinned.checked.prog.looks [] ∧ ∀ (j : Nat) t, fn.params[j]? = some t → Tryz.pinned.checked.prog.wantsStandIn t = false := by
  obtain rfl : f = 3 := Option.some.inj ((show Tryz.prog.funcNamed "loop.example/g00343/laws.FnExactStartChart" = some 3 by kernel_rfl).symm.trans hf) |>.symm
  obtain rfl : fn = Tryz.f3 := (Option.some.inj (Tryz.func3.symm.trans hfn)).symm
  refine ⟨by kernel_rfl, fun j t ht => ?_⟩
  rw [Tryz.params3] at ht
  have hm : t = 22 ∨ t = 23 ∨ t = 2 := by simpa using Array.mem_of_getElem? ht
  rcases hm with rfl | rfl | rfl
  · exact (show Tryz.prog.wantsStandIn 22 = false by kernel_rfl)
  · exact (show Tryz.prog.wantsStandIn 23 = false by kernel_rfl)
  · exact (show Tryz.prog.wantsStandIn 2 = false by kernel_rfl)
end KlS
theorem fnExactStartChart_card : Rows.FnExactStartChartCardSaid :=
  Claim7.holds_tied_plain_at .later [] _ _ _ _ KlS.said (fun _ h => by cases h) (by kernel_rfl) (fun _ h => by cases h) fnExactStartChart_row_tie rfl ⟨rfl, rfl⟩ (by kernel_rfl) rfl KlS.plain (by kernel_rfl)
#print axioms fnExactStartChart_card
end Go.Proofs.YtpgbjpfpgbjbeaaGreatDoor
