/- Laid together: BkE, BkF. -/
import Derived.Test.YtedgobdnjemegaaDoorJIsPlain33
import Derived.Test.YtedgobdnjemegaaDoorJIsPlain35
/- The list of a block, as the program tells it: listBlock. -/
namespace Go.Proofs.YtedgobdnjemegaaDoor
open Go.RowKit Go.Deep
set_option linter.unusedVariables false
namespace Bk
open Ex (hid inR nvals nvals_len nvals_get)
open Nd (NodeD)
open St (StepD)
open Nst (own flat)
open So (SOwn SJ scell)
open Pl
/-- No step of it is great. -/
abbrev Fine (f : Nat) (t : PT) : Prop := AllT (St.Small1 1048576) f t
/-- What the program lists of a block, as far as a depth. -/
def LB (f : Nat) : Prop := ∀ (S : Nat → Prop) (B0 : Nat) (acc : List StepD) (t : PT) (par : Int) (v x : Value) (w : World), B0 ≤ w.heap.size → (∀ b, S b → b < B0) → SOwn w B0 v acc → BV S f w x t → (lst (f + 1) acc t par).length ≤ 1000000000000 → Fine f t →
  Calls Tryd.prog 21 #[v, x, .int .i64 par] w fun e w' => (∃ v', e = .returned v' ∧ SOwn w' B0 v' (lst (f + 1) acc t par)) ∧ Below B0 w w'
theorem kat_succ {S : Nat → Prop} {w : World} {v : Value} {ks : List PT} : ∀ {f : Nat}, KAt S f w v ks → 0 < ks.length → ∃ f', f = f' + 1
  | 0, h, h0 => by obtain ⟨rfl, _⟩ := h; simp at h0
  | f + 1, h, h0 => ⟨f, rfl⟩
set_option maxRecDepth 100000 in
set_option maxHeartbeats 4000000 in
theorem listStep (f : Nat) (IH : ∀ f', f = f' + 1 → LB f') : LB f := by
  intro S B0 acc t par v x w hB0 hS hso hbv hlen hfine
  obtain ⟨p, vc, ve, vk, rfl, hc, he, hk⟩ := hbv
  obtain ⟨ac, cc, rfl⟩ := hc.slice
  obtain ⟨ae, ce, rfl⟩ := he.slice
  obtain ⟨ak, ck, rfl⟩ := hk.slice
  obtain ⟨av, cv, rfl⟩ := hso.slice
  obtain ⟨j0, hj, hy0, hy1, hy2⟩ := info_parts So.infoStep
  have hkl : t.kids.length ≤ maxLen := by have := hk.cap; omega
  unfold maxLen at hkl
  have hal : acc.length ≤ 1000000000000 := by rw [lst_len] at hlen; omega
  have hal1 : acc.length + 1 ≤ 1000000000000 := by rw [lst_len, cnt] at hlen; omega
  have hx0 : Below w.heap.size w (w.alloc (.cells #[.int .i64 t.s.kind, .int .i64 p, .string t.s.name, .int .i64 t.s.arg, .slice ac t.s.cond.length cc, .slice ae t.s.expr.length ce, .slice ak t.kids.length ck] 51)) := (Below.refl _ w).alloc (Nat.le_refl _) _
  have hsm := AllT.top hfine
  have hs1 := hsm.1
  have hs2 := hsm.2.1
  have hs3 := hsm.2.2
  have HOS := hid (ownStep t.s p par _ _ _ (by omega) (by omega) (by omega) ((hc.below hx0).1) ((he.below hx0).1))
  have HK := hid hk
  have HSO := hid hso
  have HS := hid hS
  have HFN := hid hfine
  have HX0 := hid hx0
  have HB := hid hB0
  have HLN : Hid (∀ m, (lstK f acc t par m).length ≤ 1000000000000) := hid (fun m => Nat.le_trans (lstK_le _ _ _ _ _) hlen)
  have HLL : Hid (∀ m (h : m < t.kids.length), (lst f (lstK f acc t par m) t.kids[m] (acc.length : Int)).length ≤ 1000000000000) := hid (fun m h => Nat.le_trans (lstK_lst_le _ _ _ _ h) hlen)
  clear hc he hk hso hS hfine hx0 hB0 hsm hs1 hs2 hs3 hlen
  go_enter Tryd.func21, Tryd.ntmps21
  go_wp2_with fail
  refine HOS.out.mono ?_
  rintro e w1 ⟨⟨uc, ue, rfl, h1, h2, h3⟩, hb1⟩
  obtain ⟨a1, c1, rfl⟩ := Nst.own_slice h1
  obtain ⟨a2, c2, rfl⟩ := Nst.own_slice h2
  have hB := HB.out
  have l1 := hb1.size
  rw [World.size_alloc] at l1
  obtain ⟨C, E, hF⟩ := HSO.out.below HX0.out
  have HEF := hid hF
  have hx1 : Below w1.heap.size w1 (w1.alloc (.cells #[.int .i64 t.s.kind, .int .i64 par, .string t.s.name, .int .i64 t.s.arg, .slice a1 t.s.cond.length c1, .slice a2 t.s.expr.length c2] 43)) := (Below.refl _ w1).alloc (Nat.le_refl _) _
  have hbA := hb1.trans (hx1.mono hb1.size)
  have HBA := hid hbA
  have HRW := hid (Nst.own_kept hF.row (fun b hb => hbA.block b (Nst.own_lt hF.row hb).2))
  have HN2 := hid (h1.alloc (.cells #[.int .i64 t.s.kind, .int .i64 par, .string t.s.name, .int .i64 t.s.arg, .slice a1 t.s.cond.length c1, .slice a2 t.s.expr.length c2] 43))
  have HN3 := hid (h2.alloc (.cells #[.int .i64 t.s.kind, .int .i64 par, .string t.s.name, .int .i64 t.s.arg, .slice a1 t.s.cond.length c1, .slice a2 t.s.expr.length c2] 43))
  have HN4 := hid h3
  have HROW : Hid (Ap.Row (w1.alloc (.cells #[.int .i64 t.s.kind, .int .i64 par, .string t.s.name, .int .i64 t.s.arg, .slice a1 t.s.cond.length c1, .slice a2 t.s.expr.length c2] 43)) 6 (.slice (some ⟨w1.heap.size, 0, none⟩) 1 1) 1 [.int .i64 t.s.kind, .int .i64 par, .string t.s.name, .int .i64 t.s.arg, .slice a1 t.s.cond.length c1, .slice a2 t.s.expr.length c2]) := hid ⟨_, _, rfl, rfl, (by simp [Value.oneCell']), .inr ⟨_, rfl, So.news #[.int .i64 t.s.kind, .int .i64 par, .string t.s.name, .int .i64 t.s.arg, .slice a1 t.s.cond.length c1, .slice a2 t.s.expr.length c2] _ _ rfl⟩⟩
  have hbx : (w1.alloc (.cells #[.int .i64 t.s.kind, .int .i64 par, .string t.s.name, .int .i64 t.s.arg, .slice a1 t.s.cond.length c1, .slice a2 t.s.expr.length c2] 43)).heap[w.heap.size]? = some (.cells #[.int .i64 t.s.kind, .int .i64 p, .string t.s.name, .int .i64 t.s.arg, .slice ac t.s.cond.length cc, .slice ae t.s.expr.length ce, .slice ak t.kids.length ck] 51) := (hbA.block _ (by simp)).trans (heap_new w _)
  have HBX := hid hbx
  have hov : ∀ b, own (.slice av acc.length cv) b → B0 ≤ b ∧ b < w.heap.size := fun b hb => by
    obtain ⟨C', E', h'⟩ := HSO.out
    exact Nst.own_lt h'.row hb
  have HOV := hid hov
  clear h1 h2 h3 hF hx1 hbA hbx hov HOS
  go_upto_region 3 with (at_builtin; go_must (refine Ap.wpList_any _ rfl _ _ 24 rfl B0 43 j0 (.agg #[.int .i64 0, .int .i64 0, .string ⟨#[]⟩, .int .i64 0, .slice none 0 0, .slice none 0 0]) 6 88 Tryd.underlying24 hj hy0 hy1 hy2 rfl (by decide) _ _ _ rfl HRW.out _ _ _ rfl HROW.out (by unfold maxLen; omega) (by omega) (by simp; omega) _ rfl ?_); intro a9 c9 w9 hown9 hg9 hat9)
  have hl9 := hg9.size
  rw [World.size_alloc] at hl9
  have hx9 : w9.heap[w.heap.size]? = some (.cells #[.int .i64 t.s.kind, .int .i64 p, .string t.s.name, .int .i64 t.s.arg, .slice ac t.s.cond.length cc, .slice ae t.s.expr.length ce, .slice ak t.kids.length ck] 51) := (hg9.block _ (by simp; omega) (fun e => by have := (HOV.out _ e.symm).2; omega)).trans HBX.out
  have k6 : w9.cell? ⟨w.heap.size, 6, none⟩ = some (.slice ak t.kids.length ck) := bcell hx9 6
  have HO9 : Hid (SOwn w9 B0 (.slice a9 (acc.length + 1) c9) (acc ++ [{ t.s with parent := par }])) := hid (So.push_at (x := { t.s with parent := par }) HEF.out (by simp; omega) (fun b _ hb => HBA.out.block b hb) (by simp; omega) HN2.out HN3.out HN4.out hown9 hg9 hat9)
  have HB9 : Hid (Below B0 w w9) := hid (((HX0.out.mono hB).trans (HBA.out.mono (by simp; omega))).grown hg9 (by simp; omega) (fun b e => (HOV.out b e).1))
  clear hown9 hg9 hat9 hb1 hx9
  go_wp2
  go_loopw [0, 22] (fun lv i wr => ∃ (j : Nat), i = .int .i64 j ∧ j ≤ t.kids.length ∧ (∃ a n c, lv = .slice a n c) ∧ Hid (SOwn wr B0 lv (lstK f acc t par j)) ∧ Hid (Below B0 w wr)) (fun _ i _ => t.kids.length - (intOf i).toNat)
  case atStart => exact ⟨0, rfl, Nat.zero_le _, ⟨_, _, _, rfl⟩, hid (by rw [lstK_zero]; exact HO9.out), HB9⟩
  case round =>
    obtain ⟨j, rfl, hjl, ⟨a7, n7, c7, rfl⟩, HO, HBW⟩ := hrel
    have lw := HBW.out.size
    by_cases hlt : j < t.kids.length
    · have q1 : (j : Int) < (t.kids.length : Int) := by omega
      obtain ⟨f', rfl⟩ := kat_succ HK.out (by omega)
      have hkk : KAt S (f' + 1) wr (.slice ak t.kids.length ck) t.kids := KAt.keep lw (fun g hg _ => HBW.out.block g (HS.out g hg)) _ HK.out
      obtain ⟨g, p2, vc, ve, vk, rfl, hSg, hg, c0, c1', c2', c3, c4, c5, c6, d1, d2, d3⟩ := hkk.at hlt
      obtain ⟨ax, cx, rfl⟩ := d1.slice
      obtain ⟨ay, cy, rfl⟩ := d2.slice
      obtain ⟨az, cz, rfl⟩ := d3.slice
      have hx2 : Below wr.heap.size wr (wr.alloc (.cells #[.int .i64 t.kids[j].s.kind, .int .i64 p2, .string t.kids[j].s.name, .int .i64 t.kids[j].s.arg, .slice ax t.kids[j].s.cond.length cx, .slice ay t.kids[j].s.expr.length cy, .slice az t.kids[j].kids.length cz] 51)) := (Below.refl _ wr).alloc (Nat.le_refl _) _
      have HX2 := hid hx2
      have HLS := hid (lstK_succ (f' + 1) acc t par hlt)
      have HCL := hid (IH f' rfl S B0 (lstK (f' + 1) acc t par j) t.kids[j] (acc.length : Int) (.slice a7 n7 c7) (.agg #[.int .i64 t.kids[j].s.kind, .int .i64 p2, .string t.kids[j].s.name, .int .i64 t.kids[j].s.arg, .slice ax t.kids[j].s.cond.length cx, .slice ay t.kids[j].s.expr.length cy, .slice az t.kids[j].kids.length cz]) (wr.alloc (.cells #[.int .i64 t.kids[j].s.kind, .int .i64 p2, .string t.kids[j].s.name, .int .i64 t.kids[j].s.arg, .slice ax t.kids[j].s.cond.length cx, .slice ay t.kids[j].s.expr.length cy, .slice az t.kids[j].kids.length cz] 51)) (by simp; omega) HS.out (HO.out.below hx2) ⟨p2, _, _, _, rfl, d1.below hx2, d2.below hx2, d3.below hx2⟩ (HLL.out j hlt) (HFN.out.2 _ (List.getElem_mem hlt)))
      clear d1 d2 d3 hx2 hkk
      generalize t.kids[j] = q at *
      go_wp2_with fail
      refine HCL.out.mono ?_
      rintro e w5 ⟨⟨v5, rfl, h5⟩, hb5⟩
      obtain ⟨a8, c8, rfl⟩ := h5.slice
      have HO5 := hid h5
      have HB5 := hid ((HBW.out.trans (HX2.out.mono (by omega))).trans hb5)
      clear h5 hb5 HCL
      go_wp2
      exact ⟨⟨j + 1, by simp, by omega, ⟨_, _, _, rfl⟩, hid (by rw [HLS.out]; exact HO5.out), HB5⟩, by simp [intOf]; omega⟩
    · have q1 : ¬ (j : Int) < (t.kids.length : Int) := by omega
      have hjn : j = t.kids.length := by omega
      have HO1 : Hid (SOwn wr B0 (.slice a7 n7 c7) (lst (f + 1) acc t par)) := hid (by
        have := HO.out
        rw [hjn, lstK_all] at this
        exact this)
      clear HO hjn
      go_wp2
      go_ret
      exact ⟨⟨_, rfl, HO1.out⟩, HBW.out⟩
theorem LB_all : ∀ f, LB f
  | 0 => listStep 0 (fun f' h => by omega)
  | f + 1 => listStep (f + 1) (fun f' h => by obtain rfl : f = f' := by omega
                                              exact LB_all f)
end Bk
end Go.Proofs.YtedgobdnjemegaaDoor
/- The program's PlainOf. Condition: the table of rules lies as its initialiser lays it. -/
namespace Go.Proofs.YtedgobdnjemegaaDoor
open Go.RowKit Go.Deep
set_option linter.unusedVariables false
namespace Bk
open Ex (hid)
open Nd (NodeD)
open St (StepD)
open Nst (own flat)
open So (SOwn)
open Pf (PJ PJ_eq kidsL pFault PAt of_p Rul procSteps)
open Pl
/-- What PlainOf answers. -/
def plainR (ss : List StepD) : List StepD := if pFault ss = 0 then plainL ss else []
theorem set2 {w : World} {b : Nat} {t : TypeId} {fr : Nat × Nat} {z0 z1 : Value} (h : w.heap[b]? = some (.cells #[z0, z1] t fr)) (a0 a1 : Value) : ((w.setCell ⟨b, 0, none⟩ a0).setCell ⟨b, 1, none⟩ a1).heap[b]? = some (.cells #[a0, a1] t fr) := by
  have h7 := blk_put (i := 1) (blk_put (i := 0) h a0) a1
  simpa only [List.setIfInBounds_toArray, List.set_cons_zero, List.set_cons_succ] using h7
theorem infoProc : (Tryd.prog.info? 26).map (fun i => (i.zero, i.size, i.bytes)) = some (some (.agg #[.int .i64 0, .slice none 0 0]), 2, 32) := by kernel_rfl
theorem below2 {B : Nat} {x w : World} (h : Below B x w) {b : Nat} (hb : B ≤ b) (a0 a1 : Value) : Below B x ((w.setCell ⟨b, 0, none⟩ a0).setCell ⟨b, 1, none⟩ a1) := (h.setCell (p := ⟨b, 0, none⟩) hb _).setCell (p := ⟨b, 1, none⟩) hb _
theorem sown_set2 {w : World} {B b : Nat} {v : Value} {ss : List StepD} (h : SOwn w B v ss) (hb : b < B) (a0 a1 : Value) : SOwn ((w.setCell ⟨b, 0, none⟩ a0).setCell ⟨b, 1, none⟩ a1) B v ss :=
  h.keep (fun c hc _ => (Below.heap_setCell _ _ _ _ (by dsimp only; omega)).trans (Below.heap_setCell _ _ _ _ (by dsimp only; omega)))
def PlPost (ss : List StepD) (w : World) (e : Ending) (w' : World) : Prop := (∃ u, e = .returned (.agg #[.int .i64 (pFault ss), u]) ∧ SOwn w' w.heap.size u (plainR ss)) ∧ Below w.heap.size w w'
set_option maxRecDepth 100000 in
set_option maxHeartbeats 4000000 in
theorem implPlainOf (ss : List StepD) (v : Value) (w : World) (hsm : St.Small 1048576 ss) (ha : St.At w 0 v ss) (hr : Rul w) :
    Calls Tryd.prog 8 #[v] w (PlPost ss w) := by
  have hb0 : Below w.heap.size w (w.alloc (.cells #[.int .i64 0, .slice none 0 0] 26)) := (Below.refl _ w).alloc (Nat.le_refl _) _
  have HC := hid (procSteps ss v (w.alloc (.cells #[.int .i64 0, .slice none 0 0] 26)) hsm (ha.below hb0) (hr.below hb0 hr.lt))
  obtain ⟨a, cap, rfl⟩ := ha.slice
  obtain ⟨j2, hj2, hy20, hy21, hy22⟩ := info_parts infoProc
  have HB0 := hid hb0
  have HSM := hid hsm
  unfold PlPost
  clear ha hsm hr hb0
  go_enter Tryd.func8, Tryd.ntmps8
  go_wp2_with fail
  refine HC.out.mono ?_
  rintro e w1 ⟨⟨u, rfl, hu1, hu2⟩, hb1⟩
  have hr1 : w1.heap[w.heap.size]? = some (.cells #[.int .i64 0, .slice none 0 0] 26) := (hb1.block _ (by simp)).trans (heap_new w _)
  have l1 := hb1.size
  rw [World.size_alloc] at l1
  have HB1 := hid (HB0.out.trans (hb1.mono HB0.out.size))
  have HR1 := hid hr1
  by_cases hf : pFault ss = 0
  · have hP := hu2 hf
    have hlen : ss.length ≤ 24 := by have := of_p hf; omega
    have h0 : 0 < ss.length := by have := of_p hf; omega
    have hd0 : deepG ss 0 = 1 := rfl
    have HPB := hid (PB_all (ss := ss) (u := u) (wp := w1) ⟨hP, hf, hlen⟩ 8 (Nat.le_refl _) 0 h0 w1 (Below.refl _ _) (by omega))
    have HPR : Hid (plainR ss = plainL ss) := hid (by unfold plainR; rw [if_pos hf])
    have HPF := hid hf
    have HLN : Hid ((lst 9 [] (plB ss 8 0) (-1)).length ≤ 1000000000000) := hid (by have := plain_len hf; unfold plainL at this; omega)
    have HFN := hid (small_plB (n := 1048576) (by omega) HSM.out.2 8 0 8)
    obtain ⟨gs, cu, rfl, _⟩ := hP
    have b1 : (pFault ss != 0) = false := by simp [hf]
    rw [hf]
    clear hu1 hu2 HC hf hb1 hr1 b1
    go_wp2_with fail
    refine HPB.out.mono ?_
    rintro e w2 ⟨⟨v2, rfl, hv2⟩, hb2⟩
    have l2 := hb2.size
    have HLB := hid (LB_all 8 (fun b => Or' (Old w1) w1.heap.size b ∧ b < w2.heap.size) w2.heap.size [] (plB ss 8 0) (-1) (.slice none 0 0) v2 w2 (Nat.le_refl _) (fun b hb => hb.2) (SOwn.nil _ _) (hv2.mono (fun b hl hb => ⟨hb, hl⟩)) HLN.out HFN.out)
    obtain ⟨p, vc, ve, vk, rfl, _⟩ := hv2
    have hr2 := (hb2.block _ (by omega)).trans HR1.out
    have HR2 := hid hr2
    have HB2 := hid (HB1.out.trans (hb2.mono (by omega)))
    clear hb2 hr2 HPB
    go_wp2_with fail
    refine HLB.out.mono ?_
    rintro e w3 ⟨⟨v3, rfl, hv3⟩, hb3⟩
    obtain ⟨a3, c3, rfl⟩ := hv3.slice
    have hr3 := (hb3.block _ (by omega)).trans HR2.out
    have l3 := hb3.size
    have z0 : w3.cell? ⟨w.heap.size, 0, none⟩ = some (.int .i64 0) := bcell hr3 0
    have z1 : w3.cell? ⟨w.heap.size, 1, none⟩ = some (.slice none 0 0) := bcell hr3 1
    have f0 := bfree hr3 0
    have f1 := bfree hr3 1
    have HV3 := hid hv3
    have HB3 := hid (HB2.out.trans (hb3.mono (by omega)))
    clear hv3 hb3 HLB
    go_wp2
    refine bodyPost_ret (results_cell_row Tryd.results8 _ _ w.heap.size 26 #[.int .i64 0, .slice a3 (lst 9 [] (plB ss 8 0) (-1)).length c3] (0, 0) _ rfl (set2 hr3 _ _) Tryd.underlying26 rfl (by rw [hj2]; simp [hy21])) rfl ⟨⟨_, by rw [HPF.out], ?_⟩, below2 HB3.out (Nat.le_refl _) _ _⟩
    rw [HPR.out]
    exact (sown_set2 HV3.out (by omega) _ _).mono (by omega)
  · have b1 : (pFault ss != 0) = true := bne_iff_ne.2 hf
    obtain rfl := hu1 hf
    have HPR : Hid (plainR ss = []) := hid (by unfold plainR; rw [if_neg hf])
    have z0 : w1.cell? ⟨w.heap.size, 0, none⟩ = some (.int .i64 0) := bcell hr1 0
    have z1 : w1.cell? ⟨w.heap.size, 1, none⟩ = some (.slice none 0 0) := bcell hr1 1
    have f0 := bfree hr1 0
    have f1 := bfree hr1 1
    have zl : w.heap.size < w1.heap.size := by omega
    clear hu1 hu2 HC hf hb1
    generalize hpf : pFault ss = pf at *
    have HPE := hid hpf
    clear hpf
    go_wp2
    refine bodyPost_ret (results_cell_row Tryd.results8 _ _ w.heap.size 26 #[.int .i64 pf, .slice none 0 0] (0, 0) _ rfl (set2 hr1 _ _) Tryd.underlying26 rfl (by rw [hj2]; simp [hy21])) rfl ⟨⟨_, by rw [HPE.out], ?_⟩, below2 HB1.out (Nat.le_refl _) _ _⟩
    rw [HPR.out]
    exact SOwn.nil _ _
end Bk
end Go.Proofs.YtedgobdnjemegaaDoor
