/- Whatever desk is handed in, OfferedAt answers as the specification's OfferedAt does, in code and in the claims, whose row owns its memory, behind another call too, and the desk reads afterwards as before. Condition, tied to the program's own text: the table of rules holds what its initialiser lays. -/
import Derived.Test.YtkelmhkakdeghaaGreatDoorJOF10
import Derived.Test.YtkelmhkakdeghaaGreatDoorMOfK
import Derived.Test.YtkelmhkakdeghaaGreatDoorJOF45
import Derived.Test.YtkelmhkakdeghaaGreatDoorJOF46
import Derived.Deep.RegionHeld3
namespace Go.Proofs.YtkelmhkakdeghaaGreatDoor
open Go.ChangeShapes Go.WideShapes Go.ChangeAt Go.RowKit Go.Deep
open Go.ChangeMaps (open_string shut_string)
set_option linter.unusedVariables false
set_option linter.unusedSimpArgs false
namespace OaL
open Ex (hid)
open Pf (Rul)
open St (Amid)
open Dk (DeskD deskC)
open Cl (ClD marksN)
open Of
theorem blk_below {w w' : World} {b : Nat} {o : Obj} (h : w.heap[b]? = some o) (hb : Below w.heap.size w w') : w'.heap[b]? = some o := (hb.block b (Ch.blk_lt h)).trans h
theorem blk_amid {w w' : World} {b B C : Nat} {o : Obj} (h : w.heap[b]? = some o) (hb : Amid w w' B C) (ho : b < B ∨ C ≤ b) : w'.heap[b]? = some o := (hb.block b (Ch.blk_lt h) ho).trans h
theorem blk_keep {w w' : World} {b : Nat} {v : Value} {o : Obj} (h : w.heap[b]? = some o) (hb : Keep v w w') (ho : v.ownBlock ≠ some b) : w'.heap[b]? = some o := (hb.block b (Ch.blk_lt h) ho).trans h
theorem below_amid {x w w' : World} {B C : Nat} (h : Below x.heap.size x w) (ha : Amid w w' B C) (hB : x.heap.size ≤ B) : Below x.heap.size x w' := ⟨ha.os.trans h.os, ha.tape.trans h.tape, ha.output.trans h.output, Nat.le_trans h.size ha.size, fun b hb => (ha.block b (Nat.lt_of_lt_of_le hb h.size) (.inl (Nat.lt_of_lt_of_le hb hB))).trans (h.block b hb)⟩
theorem new_below (w : World) (o : Obj) : Below w.heap.size w (w.alloc o) := (Below.refl _ w).alloc (Nat.le_refl _) _
theorem to1 (B : Nat) (e : DeskD) (vp vi vc : Value) (w : World) (hl : Dk.Small 1048576 e) (ha : Dk.At w B vp vi vc e) :
    Calls Tryz.prog 27 #[.agg #[vp, vi, .int .i64 e.eng.now, vc]] w fun z w' => ∃ up ui uc, z = .returned (.agg #[up, ui, .int .i64 e.eng.now, uc]) ∧ Dk.At w' w.heap.size up ui uc e ∧ Below w.heap.size w w' :=
  (Dk.to2 B e vp vi vc w hl ha).mono (fun z w' ⟨up, ui, uc, h1, h2, _, h4⟩ => ⟨up, ui, uc, h1, h2, h4⟩)
set_option maxRecDepth 100000 in
set_option maxHeartbeats 16000000 in
theorem walk (g : DeskD) (v1 v2 v3 : Value) (w : World) (kg : Dk.Ok g) (h1 : Dk.At w 0 v1 v2 v3 g) (hr : Rul w) :
    Calls Tryz.prog 6 #[.agg #[v1, v2, .int .i64 g.eng.now, v3]] w fun e w' => e = .returned (.bool true) ∧ Below w.heap.size w w' := by
  have hgl := hr.lt
  obtain ⟨⟨a1, c1, rfl⟩, ⟨a2, c2, rfl⟩, a3, c3, rfl⟩ := h1.slices
  obtain ⟨w0, e0⟩ : ∃ w0, w0 = w.alloc (.cells #[.slice a1 g.eng.procs.length c1, .slice a2 g.eng.insts.length c2, .int .i64 g.eng.now, .slice a3 g.claims.length c3] 48) := ⟨_, rfl⟩
  have hb0 : Below w.heap.size w w0 := by rw [e0]; exact new_below w _
  have hk0 : w0.heap[w.heap.size]? = some (.cells #[.slice a1 g.eng.procs.length c1, .slice a2 g.eng.insts.length c2, .int .i64 g.eng.now, .slice a3 g.claims.length c3] 48) := by rw [e0]; exact Ch.new_blk _ _
  have HZ1 := hid (Dk.sz 0 g _ _ _ 1048576 w0 (by omega) (by omega) kg (h1.below hb0))
  have H1 := hid h1
  have HR := hid hr
  have HB0 := hid hb0
  clear h1 kg hr hb0
  go_enter Tryz.func6, Tryz.ntmps6
  go_wp2_with fail
  rw [← e0]
  clear e0
  refine HZ1.out.mono ?_
  rintro e w1 ⟨⟨r1, rfl, r1a, r1b, r1c⟩, hb1⟩
  have B1 := HB0.out.trans (hb1.mono HB0.out.size)
  have K1 : Hid (w1.heap[w.heap.size]? = some (.cells #[.slice a1 g.eng.procs.length c1, .slice a2 g.eng.insts.length c2, .int .i64 g.eng.now, .slice a3 g.claims.length c3] 48)) := hid (blk_below hk0 hb1)
  clear hb1 hk0 HZ1 HB0
  by_cases q1 : r1 < 0
  · go_wp2
    go_ret
    exact ⟨rfl, B1⟩
  have S1 := hid (r1c (by omega))
  clear r1c
  have HT := hid (fun w' (hb : Below w.heap.size w w') => Dk.to2 0 g _ _ _ w' S1.out (H1.out.below hb))
  have HC1 := hid (fun w' (hb : Below w.heap.size w w') => to1 0 g _ _ _ w' S1.out (H1.out.below hb))
  have HIK := hid (fun u1 u2 u3 w' (hb : Below w.heap.size w w') (hu : Dk.At w' 0 u1 u2 u3 g) => Of.implOfferedAt g u1 u2 u3 w' S1.out hu (HR.out.below hb hgl))
  have HSK := hid (fun u1 u2 u3 w' (hu : Dk.At w' 0 u1 u2 u3 g) => Of.specOfferedAt 0 g u1 u2 u3 w' S1.out hu)
  have hrl : (offL g).length ≤ 1048576 := off_len S1.out
  clear H1
  generalize hxx : offL g = rr at *
  generalize hcc : deskC g = cc at *
  clear hcc hxx
  have d0 := Ch.blk_cell K1.out 0
  have d1 := Ch.blk_cell K1.out 1
  have d2 := Ch.blk_cell K1.out 2
  have d3 := Ch.blk_cell K1.out 3
  have lk := Ch.blk_lt K1.out
  go_wp2_with fail
  refine (HC1.out _ B1).mono ?_
  rintro e q1 ⟨p1, p2, p3, rfl, hu, hb⟩
  obtain ⟨⟨s1, t1, rfl⟩, ⟨s2, t2, rfl⟩, s3, t3, rfl⟩ := hu.slices
  have U1 := hid (hu.mono (Nat.zero_le _))
  have BW1 := B1.trans (hb.mono B1.size)
  have K2 : Hid (q1.heap[w.heap.size]? = some (.cells #[.slice a1 g.eng.procs.length c1, .slice a2 g.eng.insts.length c2, .int .i64 g.eng.now, .slice a3 g.claims.length c3] 48)) := hid (blk_below K1.out hb)
  clear hu hb K1
  clear d0 d1 d2 d3 lk
  go_wp2_with fail
  refine (HSK.out _ _ _ _ U1.out).mono ?_
  rintro e q3 ⟨⟨sv, rfl, hO⟩, hb3⟩
  have II3 := hid hO.at'
  obtain ⟨m1, n1, rfl⟩ := II3.out.slice
  have BW3 := BW1.trans (hb3.mono BW1.size)
  have K3 : Hid (q3.heap[w.heap.size]? = some (.cells #[.slice a1 g.eng.procs.length c1, .slice a2 g.eng.insts.length c2, .int .i64 g.eng.now, .slice a3 g.claims.length c3] 48)) := hid (blk_below K2.out hb3)
  clear hO hb3 U1 K2 BW1 B1
  obtain ⟨wc, ewc⟩ : ∃ wc, wc = q3.alloc (.cells #[.int .i64 cc, .slice m1 rr.length n1] 58) := ⟨_, rfl⟩
  have hbc : Below q3.heap.size q3 wc := by rw [ewc]; exact new_below q3 _
  obtain ⟨p, ep⟩ : ∃ p, p = q3.heap.size := ⟨_, rfl⟩
  have PP : Hid (wc.heap[p]? = some (.cells #[.int .i64 cc, .slice m1 rr.length n1] 58)) := hid (by rw [ewc, ep]; exact Ch.new_blk _ _)
  have I0 := hid ((II3.out.mono (Nat.zero_le _)).below hbc)
  have B3 := BW3.trans (hbc.mono BW3.size)
  have KC := hid (blk_below K3.out hbc)
  have D3 := hid K3.out
  have EP := hid ep
  have EWC := hid ewc
  have EL := Ch.blk_lt PP.out
  clear hbc ep ewc II3 BW3 HSK K3
  have d0 := Ch.blk_cell D3.out 0
  have d1 := Ch.blk_cell D3.out 1
  have d2 := Ch.blk_cell D3.out 2
  have d3 := Ch.blk_cell D3.out 3
  have lk := Ch.blk_lt D3.out
  go_wp2_with fail
  rw [← EWC.out, ← EP.out]
  clear EWC EP D3 d0 d1 d2 d3 lk
  refine (HT.out _ B3).mono ?_
  rintro e w5 ⟨p1, p2, p3, rfl, hu5, hw5, hb5⟩
  obtain ⟨⟨x1, y1, rfl⟩, ⟨x2, y2, rfl⟩, x3, y3, rfl⟩ := hu5.slices
  obtain ⟨w6, e6⟩ : ∃ w6, w6 = w5.alloc (.cells #[.slice x1 g.eng.procs.length y1, .slice x2 g.eng.insts.length y2, .int .i64 g.eng.now, .slice x3 g.claims.length y3] 53) := ⟨_, rfl⟩
  have hx6 : Below w5.heap.size w5 w6 := by rw [e6]; exact new_below w5 _
  obtain ⟨X, eX⟩ : ∃ X, X = w5.heap.size := ⟨_, rfl⟩
  have hb6 : Below wc.heap.size wc w6 := hb5.trans (hx6.mono hb5.size)
  have X6 : Hid (w6.heap[X]? = some (.cells #[.slice x1 g.eng.procs.length y1, .slice x2 g.eng.insts.length y2, .int .i64 g.eng.now, .slice x3 g.claims.length y3] 53)) := hid (by rw [e6, eX]; exact Ch.new_blk _ _)
  have B6 := B3.trans (hb6.mono B3.size)
  have C6 := hid hb6
  have U6 := hid ((hu5.mono (Nat.zero_le _)).below hx6)
  have W6 := hid (hw5.below hx6)
  have l5 := hb5.size
  have n6 : w5.heap.size < w6.heap.size := by rw [e6]; simp
  have LX := hid eX
  have E6 := hid e6
  clear hu5 hw5 hb5 hx6 hb6 eX e6
  have HIM := hid (HIK.out _ _ _ w6 B6 U6.out)
  go_wp2_with fail
  rw [← E6.out, ← LX.out]
  clear E6
  refine HIM.out.mono ?_
  rintro e w9 ⟨⟨gv, rfl, hO9⟩, hb9⟩
  obtain ⟨h1, i1, rfl⟩ := hO9.slice
  obtain ⟨wa, ea⟩ : ∃ wa, wa = w9.alloc (.cells #[.int .i64 cc, .slice h1 rr.length i1] 58) := ⟨_, rfl⟩
  have hxa : Below w9.heap.size w9 wa := by rw [ea]; exact new_below w9 _
  have hba : Below w6.heap.size w6 wa := hb9.trans (hxa.mono hb9.size)
  obtain ⟨G, eG⟩ : ∃ G, G = w9.heap.size := ⟨_, rfl⟩
  have Ga : Hid (wa.heap[G]? = some (.cells #[.int .i64 cc, .slice h1 rr.length i1] 58)) := hid (by rw [ea, eG]; exact Ch.new_blk _ _)
  have na : w9.heap.size < wa.heap.size := by rw [ea]; simp
  have l9 := hb9.size
  have LG := hid eG
  have HIN : Hid (∀ b, (Value.slice h1 rr.length i1).ownBlock = some b → w6.heap.size ≤ b ∧ b < G) := hid (fun b e => by rw [eG]; exact hO9.lt e)
  have Oa := hid (hO9.below hxa)
  have Ba := B6.trans (hba.mono B6.size)
  have Ca := hid (C6.out.trans (hba.mono C6.out.size))
  have Ua := hid (U6.out.below hba)
  have Wa := hid (W6.out.below hba)
  have Xa : Hid (wa.heap[X]? = some (.cells #[.slice x1 g.eng.procs.length y1, .slice x2 g.eng.insts.length y2, .int .i64 g.eng.now, .slice x3 g.claims.length y3] 53)) := hid (blk_below X6.out hba)
  have P9 := blk_below PP.out (C6.out.trans (hb9.mono C6.out.size))
  have pp0 := Ch.blk_cell P9 0
  have pp1 := Ch.blk_cell P9 1
  have ppl := Ch.blk_lt P9
  have EA := hid ea
  clear P9 hO9 hb9 hxa hba U6 W6 C6 X6 HIM eG ea
  go_wp2_with fail
  rw [← EA.out, ← LG.out]
  clear EA
  refine (Of.eqOR _ _ cc rr _ _ wa hrl Oa.out.at' (I0.out.below Ca.out)).mono ?_
  rintro e wb ⟨rfl, hbb⟩
  clear pp0 pp1 ppl
  have Gb : Hid (wb.heap[G]? = some (.cells #[.int .i64 cc, .slice h1 rr.length i1] 58)) := hid (blk_below Ga.out hbb)
  have Ob := hid (Oa.out.below hbb)
  have Ub := hid (Ua.out.below hbb)
  have Wb := hid (Wa.out.below hbb)
  have Xb : Hid (wb.heap[X]? = some (.cells #[.slice x1 g.eng.procs.length y1, .slice x2 g.eng.insts.length y2, .int .i64 g.eng.now, .slice x3 g.claims.length y3] 53)) := hid (blk_below Xa.out hbb)
  have Bb := Ba.trans (hbb.mono Ba.size)
  have Cb := hid (Ca.out.trans (hbb.mono Ca.out.size))
  have sb := hbb.size
  clear Ga Oa Ua Wa Xa Ca
  clear hbb
  have HDd : Hid (wb.drew.heap[w.heap.size]? = some (.cells #[.slice a1 g.eng.procs.length c1, .slice a2 g.eng.insts.length c2, .int .i64 g.eng.now, .slice a3 g.claims.length c3] 48) ∧ wb.drew.heap[X]? = some (.cells #[.slice x1 g.eng.procs.length y1, .slice x2 g.eng.insts.length y2, .int .i64 g.eng.now, .slice x3 g.claims.length y3] 53)) := hid ⟨blk_below KC.out Cb.out.drew, Xb.out⟩
  have hBd := Bb.drew
  have hdd : Below wb.heap.size wb wb.drew := (Below.refl _ wb).drew
  have HUd := hid (Ub.out.below hdd)
  go_wp2
  refine wp_region_held_drew (S := fun wx => wx.heap[w.heap.size]? = some (.cells #[.slice a1 g.eng.procs.length c1, .slice a2 g.eng.insts.length c2, .int .i64 g.eng.now, .slice a3 g.claims.length c3] 48) ∧ wx.heap[X]? = some (.cells #[.slice x1 g.eng.procs.length y1, .slice x2 g.eng.insts.length y2, .int .i64 g.eng.now, .slice x3 g.claims.length y3] 53)) (by kernel_rfl) HDd.out (fun hHeld => ?_)
  refine wpAnyH_take (i := 0) (v := .agg #[.slice x1 g.eng.procs.length y1, .slice x2 g.eng.insts.length y2, .int .i64 g.eng.now, .slice x3 g.claims.length y3]) rfl (by kernel_rfl) (by kernel_rfl) (by kernel_rfl) (fun _ _ _ h => h) (Or.inl ⟨by kernel_rfl, by intro w hSw; (try dsimp only at hSw); have m0 := Ch.blk_cell hSw.2 0; have m1 := Ch.blk_cell hSw.2 1; have m2 := Ch.blk_cell hSw.2 2; have m3 := Ch.blk_cell hSw.2 3; clear hSw; go_simp⟩) (by assumption) ?_
  simp only [Act.put, List.setIfInBounds_toArray, List.set_cons_zero, List.set_cons_succ]
  refine wpAnyH_take (i := 1) (v := .agg #[.slice a1 g.eng.procs.length c1, .slice a2 g.eng.insts.length c2, .int .i64 g.eng.now, .slice a3 g.claims.length c3]) rfl (by kernel_rfl) (by kernel_rfl) (by kernel_rfl) (fun _ _ _ h => h) (Or.inl ⟨by kernel_rfl, by intro w hSw; (try dsimp only at hSw); have m0 := Ch.blk_cell hSw.1 0; have m1 := Ch.blk_cell hSw.1 1; have m2 := Ch.blk_cell hSw.1 2; have m3 := Ch.blk_cell hSw.1 3; clear hSw; go_simp⟩) (by assumption) ?_
  simp only [Act.put, List.setIfInBounds_toArray, List.set_cons_zero, List.set_cons_succ]
  refine wpAnyH_ready (rs := [2]) (by kernel_rfl) (by simp) ?_
  refine AllReadyH.cons rfl (fun K hK => ?_) AllReadyH.nil
  go_simp
  go_at_call 27
  refine (HC1.out _ hBd).mono ?_
  rintro e wf ⟨p1, p2, p3, rfl, hu, hbf⟩
  obtain ⟨⟨z1, k1, rfl⟩, ⟨z2, k2, rfl⟩, z3, k3, rfl⟩ := hu.slices
  have HEC := hid (Dk.eq _ _ g _ _ _ _ _ _ wf S1.out (HUd.out.below hbf) hu)
  have hdf := hdd.trans (hbf.mono hdd.size)
  have HDf : Hid (wf.heap[w.heap.size]? = some (.cells #[.slice a1 g.eng.procs.length c1, .slice a2 g.eng.insts.length c2, .int .i64 g.eng.now, .slice a3 g.claims.length c3] 48) ∧ wf.heap[X]? = some (.cells #[.slice x1 g.eng.procs.length y1, .slice x2 g.eng.insts.length y2, .int .i64 g.eng.now, .slice x3 g.claims.length y3] 53)) := hid ⟨blk_below HDd.out.1 hbf, blk_below HDd.out.2 hbf⟩
  clear hu hbf
  go_wp2_with fail
  refine hK.out _ _ HDf.out (fun hHeld => ?_)
  clear hK K
  try simp only [Act.put, List.setIfInBounds_toArray, List.set_cons_zero, List.set_cons_succ]
  refine wpAnyH_ready (rs := [3]) (by kernel_rfl) (by simp) ?_
  refine AllReadyH.cons rfl (fun K hK => ?_) AllReadyH.nil
  go_simp
  go_at_call 29
  refine HEC.out.mono ?_
  rintro e we ⟨rfl, hbe⟩
  have hde := hdf.trans (hbe.mono hdf.size)
  have HDe : Hid (we.heap[w.heap.size]? = some (.cells #[.slice a1 g.eng.procs.length c1, .slice a2 g.eng.insts.length c2, .int .i64 g.eng.now, .slice a3 g.claims.length c3] 48) ∧ we.heap[X]? = some (.cells #[.slice x1 g.eng.procs.length y1, .slice x2 g.eng.insts.length y2, .int .i64 g.eng.now, .slice x3 g.claims.length y3] 53)) := hid ⟨blk_below HDf.out.1 hbe, blk_below HDf.out.2 hbe⟩
  clear hbe
  go_wp2_with fail
  refine hK.out _ _ HDe.out (fun hHeld => ?_)
  clear hK K
  try simp only [Act.put, List.setIfInBounds_toArray, List.set_cons_zero, List.set_cons_succ]
  refine wpAnyH_take (i := 4) (v := .bool false) rfl (by kernel_rfl) (by kernel_rfl) (by kernel_rfl) (fun _ _ _ h => h) (Or.inl ⟨by kernel_rfl, by intro w hSw; (try dsimp only at hSw); go_simp⟩) (by assumption) ?_
  simp only [Act.put, List.setIfInBounds_toArray, List.set_cons_zero, List.set_cons_succ]
  refine wpAnyH_done (by kernel_rfl) ?_ _
  clear hHeld HDd HDf HDe HEC HUd hBd hdf hdd
  have Ge : Hid (we.heap[G]? = some (.cells #[.int .i64 cc, .slice h1 rr.length i1] 58)) := hid (blk_below Gb.out hde)
  have Oe := hid (Ob.out.below hde)
  have We := hid (Wb.out.below hde)
  have Xe : Hid (we.heap[X]? = some (.cells #[.slice x1 g.eng.procs.length y1, .slice x2 g.eng.insts.length y2, .int .i64 g.eng.now, .slice x3 g.claims.length y3] 53)) := hid (blk_below Xb.out hde)
  have Be := Bb.trans (hde.mono Bb.size)
  have Ce := hid (Cb.out.trans (hde.mono Cb.out.size))
  have se := hde.size
  clear Gb Ob Wb Xb Cb
  clear hde Ub
  have d0 := Ch.blk_cell Xe.out 0
  have d1 := Ch.blk_cell Xe.out 1
  have d2 := Ch.blk_cell Xe.out 2
  have d3 := Ch.blk_cell Xe.out 3
  have lk := Ch.blk_lt Xe.out
  have HMC := hid (Dk.markA wc.heap.size w5.heap.size g _ _ _ we S1.out We.out (by omega))
  go_wp2_with fail
  refine HMC.out.mono ?_
  rintro e wj ⟨⟨rj, rfl, hrj⟩, ham⟩
  clear d0 d1 d2 d3 lk
  have Gj : Hid (wj.heap[G]? = some (.cells #[.int .i64 cc, .slice h1 rr.length i1] 58)) := hid (blk_amid Ge.out ham (.inr (by have := LG.out; omega)))
  have Oj := hid (Oe.out.kept (fun b e => ham.block b (Oe.out.lt e).2 (.inr (by have := HIN.out b e; omega))))
  have Bj := below_amid Be ham (by have := B3.size; omega)
  have Cj := hid (below_amid Ce.out ham (Nat.le_refl _))
  have sj := ham.size
  clear Ge Oe Ce ham We Xe HMC
  have qk : ¬ rj < 0 := by omega
  have PX := blk_below PP.out Cj.out
  have pp0 := Ch.blk_cell PX 0
  have pp1 := Ch.blk_cell PX 1
  have ppl := Ch.blk_lt PX
  clear PX
  have pg0 := Ch.blk_cell Gj.out 0
  have pg1 := Ch.blk_cell Gj.out 1
  have pgl := Ch.blk_lt Gj.out
  go_wp2_with fail
  refine (Of.eqOR _ _ cc rr _ _ wj hrl Oj.out.at' (I0.out.below Cj.out)).mono ?_
  rintro e wm ⟨rfl, hbm⟩
  clear pp0 pp1 ppl
  clear pg0 pg1 pgl
  have Gm : Hid (wm.heap[G]? = some (.cells #[.int .i64 cc, .slice h1 rr.length i1] 58)) := hid (blk_below Gj.out hbm)
  have Om := hid (Oj.out.below hbm)
  have Bm := Bj.trans (hbm.mono Bj.size)
  have Cm := hid (Cj.out.trans (hbm.mono Cj.out.size))
  have sm := hbm.size
  clear Gj Oj Cj
  clear hbm
  have pg0 := Ch.blk_cell Gm.out 0
  have pg1 := Ch.blk_cell Gm.out 1
  have pgl := Ch.blk_lt Gm.out
  go_wp2_with fail
  refine (Of.markOR _ cc rr _ wm hrl Om.out).mono ?_
  rintro e wn ⟨rfl, hon, hwn⟩
  clear pg0 pg1 pgl
  have Gn : Hid (wn.heap[G]? = some (.cells #[.int .i64 cc, .slice h1 rr.length i1] 58)) := hid (blk_keep Gm.out hwn (fun e => by have := HIN.out _ e; omega))
  have Mn := hid hon
  have Bn := Keep.below Bm hwn (fun b e => by have := HIN.out b e; have := B6.size; omega)
  have Cn := hid (Keep.below Cm.out hwn (fun b e => by have := HIN.out b e; omega))
  have sn := hwn.size
  clear hon hwn Gm Om Cm
  have pg0 := Ch.blk_cell Gn.out 0
  have pg1 := Ch.blk_cell Gn.out 1
  have pgl := Ch.blk_lt Gn.out
  go_wp2_with fail
  refine (Of.heldOR _ cc rr.length _ wn hrl Mn.out).mono ?_
  rintro e wo ⟨rfl, hbo⟩
  clear pg0 pg1 pgl
  have Go : Hid (wo.heap[G]? = some (.cells #[.int .i64 cc, .slice h1 rr.length i1] 58)) := hid (blk_below Gn.out hbo)
  have Mo := hid (Mn.out.below hbo)
  have Bo := Bn.trans (hbo.mono Bn.size)
  have Co := hid (Cn.out.trans (hbo.mono Cn.out.size))
  have so := hbo.size
  clear Gn Mn Cn
  clear hbo
  have qq1 : ¬ (1 + 3 * (rr.length : Int)) < 0 := by omega
  have qq2 : ((1 + 3 * (rr.length : Int)) != (1 + 3 * (rr.length : Int))) = false := by simp
  have Ko := blk_below KC.out Co.out
  have d0 := Ch.blk_cell Ko 0
  have d1 := Ch.blk_cell Ko 1
  have d2 := Ch.blk_cell Ko 2
  have d3 := Ch.blk_cell Ko 3
  have lk := Ch.blk_lt Ko
  clear Ko
  go_wp2_with fail
  refine (HC1.out _ Bo).mono ?_
  rintro e wr ⟨p1, p2, p3, rfl, hu, hb6⟩
  obtain ⟨⟨o1, j1, rfl⟩, ⟨o2, j2, rfl⟩, o3, j3, rfl⟩ := hu.slices
  have U6 := hid (hu.mono (Nat.zero_le _))
  clear d0 d1 d2 d3 lk
  have Gr : Hid (wr.heap[G]? = some (.cells #[.int .i64 cc, .slice h1 rr.length i1] 58)) := hid (blk_below Go.out hb6)
  have Mr := hid (Mo.out.below hb6)
  have Br := Bo.trans (hb6.mono Bo.size)
  have Cr := hid (Co.out.trans (hb6.mono Co.out.size))
  have sr := hb6.size
  clear Go Mo Co
  clear hu hb6
  have HIM := hid (HIK.out _ _ _ wr Br U6.out)
  go_wp2_with fail
  refine HIM.out.mono ?_
  rintro e wt ⟨⟨g3, rfl, hO⟩, hb7⟩
  obtain ⟨m3, n3, rfl⟩ := hO.slice
  have J0 := hid hO.at'
  have Gt : Hid (wt.heap[G]? = some (.cells #[.int .i64 cc, .slice h1 rr.length i1] 58)) := hid (blk_below Gr.out hb7)
  have Mt := hid (Mr.out.below hb7)
  have Bt := Br.trans (hb7.mono Br.size)
  have Ct := hid (Cr.out.trans (hb7.mono Cr.out.size))
  have st := hb7.size
  clear Gr Mr Cr
  obtain ⟨wy, ewy⟩ : ∃ wy, wy = wt.alloc (.cells #[.int .i64 cc, .slice m3 rr.length n3] 58) := ⟨_, rfl⟩
  have hby : Below wt.heap.size wt wy := by rw [ewy]; exact new_below wt _
  have PT := blk_below PP.out Ct.out
  have pp0 := Ch.blk_cell PT 0
  have pp1 := Ch.blk_cell PT 1
  have ppl := Ch.blk_lt PT
  have J1 := hid (J0.out.below hby)
  have Gy : Hid (wy.heap[G]? = some (.cells #[.int .i64 cc, .slice h1 rr.length i1] 58)) := hid (blk_below Gt.out hby)
  have My := hid (Mt.out.below hby)
  have By := Bt.trans (hby.mono Bt.size)
  have Cy := hid (Ct.out.trans (hby.mono Ct.out.size))
  have sy := hby.size
  clear Gt Mt Ct
  have EWY := hid ewy
  clear PT hO hb7 hby ewy J0 HIM U6
  go_wp2_with fail
  rw [← EWY.out]
  clear EWY
  refine (Of.eqOR _ _ cc rr _ _ wy hrl J1.out (I0.out.below Cy.out)).mono ?_
  rintro e wz ⟨rfl, hbz⟩
  clear pp0 pp1 ppl
  have Gz : Hid (wz.heap[G]? = some (.cells #[.int .i64 cc, .slice h1 rr.length i1] 58)) := hid (blk_below Gy.out hbz)
  have Mz := hid (My.out.below hbz)
  have Bz := By.trans (hbz.mono By.size)
  have Cz := hid (Cy.out.trans (hbz.mono Cy.out.size))
  have sz := hbz.size
  clear Gy My Cy
  clear hbz J1
  have pg0 := Ch.blk_cell Gz.out 0
  have pg1 := Ch.blk_cell Gz.out 1
  have pgl := Ch.blk_lt Gz.out
  go_wp2_with fail
  refine (Of.heldOR _ cc rr.length _ wz hrl Mz.out).mono ?_
  rintro e wq ⟨rfl, hbq⟩
  have Bq := Bz.trans (hbq.mono Bz.size)
  go_wp2
  go_ret
  exact ⟨rfl, Bq⟩
set_option maxRecDepth 100000 in
theorem contract (H : Type) (enc : TypeId × Value → H) (W : World) (base : Nat) (args : Array Value) (ds gs : List (DataW H)) (before : List MemPlace)
    (hval : ∀ (j : Nat) t v, Tryz.f6.params[j]? = some t → args[j]? = some v → Value.okWide Tryz.prog W .any base t v)
    (hW : DataW.Whole enc Tryz.prog Tryz.f6.params.toList Rows.fnExactOfferedAtSpec.vars false W args.toList ds gs before) (hL : laidMetH Tryz.prog Rows.fnExactOfferedAtRow.laid W) :
    Calls Tryz.prog 6 args W fun e W' => ∃ v, e = .returned v ∧ Rows.fnExactOfferedAtSpec.post enc Tryz.prog Tryz.f6 false true false false W args v W' := by
  have hent := Crd.rul_of hL
  have hW' := hW
  obtain ⟨p, q, hA0, hV, rfl, hfz, hnd⟩ := hW
  have hA : DataW.TrodAll enc Tryz.prog W 0 (fun _ => true) true Tryz.f6.params.toList args.toList ds p := hA0
  rw [Tryz.params6] at hA hval
  obtain ⟨v0, vs0, d0, ds0, p0, q0, hargs, rfl, rfl, h0, r0⟩ := trodAll_cons hA
  obtain ⟨rfl, rfl, rfl⟩ := trodAll_nil r0
  obtain rfl : args = #[v0] := by cases args; simp_all
  obtain ⟨cs0, rfl, _⟩ := okWide_struct Tryz.underlying48 (hval 0 48 v0 rfl rfl)
  have k0 := h0
  have lt0 : ∀ x ∈ p0, x.block < W.heap.size := by obtain ⟨m, hm⟩ := k0; exact DataW.trod_lt m _ _ _ hm
  obtain ⟨g0, n0, f0, m0, hc0, ga0, gk0⟩ : ∃ (g : Dk.DeskD) (vn vf vm : Value), cs0.toList = [vn, vf, .int .i64 g.eng.now, vm] ∧ Dk.At W 0 vn vf vm g ∧ Dk.Ok g := by
    obtain ⟨fuel, hf⟩ := h0
    exact Dk.open_all (by simpa [Value.cells] using hf)
  obtain rfl : cs0 = #[n0, f0, .int .i64 g0.eng.now, m0] := by cases cs0; simp_all
  clear hA0
  refine (walk g0 _ _ _ W gk0 ga0 hent).mono fun e W' ⟨he, bel⟩ => ?_
  subst he
  have hV0 := hV
  obtain ⟨g, t, cs, fuel, dv, pv, rfl, hg, ht, hvar, hd, rfl⟩ := trodVars_one hV
  have hv' := Below.trodVars Crd.laidOut bel (ns := Rows.fnExactOfferedAtSpec.vars) (by kernel_rfl) hV0
  exact ⟨_, rfl, _, _, _, [], _, _, hW', trodAll_mk1 (shut_bool Tryz.underlying4 _), (trodAll_cons_mk (Below.trod Crd.laidOut (by kernel_rfl) (of_decide_eq_true (by kernel_rfl)) k0 bel lt0) trodAll_mk0), hv', bel.frame _, fun h => by cases h⟩
theorem laid_met (os : Os) : laidMet Tryz.prog Rows.fnExactOfferedAtRow.laid ((Crd.laidOver (World.holding Tryz.prog os ⟨#[], #[], []⟩)).forCall (fun _ _ => 0) ⟨#[], #[.agg #[.slice Option.none 0 0, .slice Option.none 0 0, .int .i64 0, .slice Option.none 0 0]], []⟩).memory :=
  laidMet_of_run' 8 (by kernel_rfl) (by kernel_rfl)
theorem reads (os : Os) {H : Type} (enc : TypeId × Value → H) : ∃ places, DataW.whole enc Tryz.prog ((Crd.laidOver (World.holding Tryz.prog os ⟨#[], #[], []⟩)).forCall (fun _ _ => 0) ⟨#[], #[.agg #[.slice Option.none 0 0, .slice Option.none 0 0, .int .i64 0, .slice Option.none 0 0]], []⟩).memory Tryz.f6.params.toList Rows.fnExactOfferedAtSpec.vars false #[Value.agg #[Value.slice Option.none 0 0, Value.slice Option.none 0 0, Value.int .i64 0, Value.slice Option.none 0 0]].toList 8 = some ([.agg [.agg [.nil, .nil, .lit (.int .i64 0)], .nil]], [Rows.laid_loop_example_g00343_impl_stepRules], places) :=
  ⟨MemPlace.row ⟨0, 0, Option.none⟩ 56, by kernel_rfl⟩
set_option maxRecDepth 100000 in
theorem lifted (os : Os) (started : os.Started) (H : Type) (enc : TypeId × Value → H) (F : Stop.Interp) :
    ReturnsInHanded {} Tryz.checked os 6 .any ((OpenSpec.ofChange Rows.fnExactOfferedAtSpec).preRow enc Tryz.prog Tryz.f6 Rows.fnExactOfferedAtRow.domain false Rows.fnExactOfferedAtRow.laid) (((OpenSpec.ofChange Rows.fnExactOfferedAtSpec).at F).post enc Tryz.prog Tryz.f6 false true false false) := by
  obtain ⟨places, hx⟩ := reads os enc
  refine returnsInHanded_of_row (C := Tryz.checked) (s := OpenSpec.ofChange Rows.fnExactOfferedAtSpec) Crd.own started (by kernel_rfl) Tryz.func6
    (witness_row_at (enc := enc) (C := Tryz.checked) false (Crd.laidOver (World.holding Tryz.prog os ⟨#[], #[], []⟩)) #[.agg #[.slice Option.none 0 0, .slice Option.none 0 0, .int .i64 0, .slice Option.none 0 0]] rfl (by kernel_rfl) (by kernel_rfl) (by kernel_rfl)
      (OpenSpec.preRow_of_cond 8 hx (by kernel_rfl) (fun k hk => by cases hk) (by kernel_rfl) (laid_met os))) ?_
  intro W base args ds gs before hval hW _ _ _ hL _ _
  exact contract H enc W base args ds gs before hval hW hL
theorem said : Rows.FnExactOfferedAtSaid :=
  OpenClaim.holds_of_cond 6 Tryz.f6 rfl rfl rfl rfl rfl rfl rfl ⟨rfl, rfl, rfl, rfl, rfl⟩ rfl rfl rfl rfl rfl (by kernel_rfl) Tryz.func6 (by kernel_rfl)
    (of_decide_eq_true (by kernel_rfl)) (by unfold Func.isWrapper; first | (rw [if_pos (by decide +kernel)]; kernel_rfl) | (rw [if_neg (by decide +kernel)]; exact ⟨rfl, rfl⟩))
    (fun os started H enc _ F => by rw [OpenClaim.pre_eq_preRow]; exact lifted os started H enc F)
set_option maxRecDepth 100000 in
theorem plain (f : FuncId) (fn : Func) (hf : Tryz.pinned.checked.prog.funcNamed "loop.example/g00343/laws.FnExactOfferedAt" = some f) (hfn : Tryz.pinned.checked.prog.funcs[f]? = some fn) :
    true = Tryz.pinned.checked.prog.looks [] ∧ ∀ (j : Nat) t, fn.params[j]? = some t → Tryz.pinned.checked.prog.wantsStandIn t = false := by
  obtain rfl : f = 6 := Option.some.inj ((show Tryz.prog.funcNamed "loop.example/g00343/laws.FnExactOfferedAt" = some 6 by kernel_rfl).symm.trans hf) |>.symm
  obtain rfl : fn = Tryz.f6 := (Option.some.inj (Tryz.func6.symm.trans hfn)).symm
  refine ⟨by kernel_rfl, fun j t ht => ?_⟩
  rw [Tryz.params6] at ht
  obtain rfl : t = 48 := by simpa using Array.mem_of_getElem? ht
  exact (show Tryz.prog.wantsStandIn 48 = false by kernel_rfl)
end OaL
theorem fnExactOfferedAt_card : Rows.FnExactOfferedAtCardSaid :=
  Claim7.holds_tied_plain_at .later [] _ _ _ _ OaL.said (fun _ h => by cases h) (by kernel_rfl) (fun _ h => by cases h) fnExactOfferedAt_row_tie rfl ⟨rfl, rfl⟩ (by kernel_rfl) rfl OaL.plain (by kernel_rfl)
#print axioms fnExactOfferedAt_card
end Go.Proofs.YtkelmhkakdeghaaGreatDoor
