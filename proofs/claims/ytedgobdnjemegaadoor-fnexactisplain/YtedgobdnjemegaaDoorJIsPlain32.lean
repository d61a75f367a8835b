/- A step and what is below it, made plain by the program: plainBlock. -/
import Derived.Test.YtedgobdnjemegaaDoorJIsPlain24
import Derived.Test.YtedgobdnjemegaaDoorJIsPlain31
namespace Go.Proofs.YtedgobdnjemegaaDoor
open Go.RowKit
set_option linter.unusedVariables false
namespace Bk
open Ex (hid inR)
open Nd (NodeD)
open St (StepD)
open Nst (own flat)
open Pf (PJ PJ_eq kidsL pFault PAt PCells KidsAt path of_p first_all of_one formOk bare)
open Pt (kidVals)
open Pl
theorem kids_at {w : World} {v : Value} {l : List Nat} (h : KidsAt w v l) (h0 : 0 < l.length) : ∃ bk cap, v = .slice (some ⟨bk, 0, none⟩) l.length cap ∧ bk < w.heap.size ∧ l.length ≤ cap ∧ cap ≤ maxLen ∧ ∀ i (h : i < l.length), w.cell? ⟨bk, i, none⟩ = some (.int .i64 (l[i] : Int)) := by
  obtain ⟨B, ho⟩ := h
  obtain ⟨bk, cap, rfl, _, h2, h3, h4⟩ := Nst.own_some ho h0
  exact ⟨bk, cap, rfl, h2, h3, h4, fun i hi => (ho.cellAt i (by omega)).trans (by simp [kidVals, hi])⟩
theorem empty_of {b : ByteArray} (h : b.toList.isEmpty = true) : b = ⟨#[]⟩ := by
  rw [ByteArray.toList_eq, List.isEmpty_iff] at h
  cases b with
  | mk d => congr 1; exact Array.toList_eq_nil_iff.1 h
theorem seq_step {ss : List StepD} {k : Nat} (h : pFault ss = 0) (hk : k < ss.length) (h1 : ss[k].kind = 1) : SeqS ss[k] ss[k].cond := by
  have h2 := (of_one (first_all (of_p h).2.1 hk)).1
  rw [PJ_eq hk] at h2
  unfold formOk bare at h2
  simp only [h1, Bool.and_eq_true, Bool.or_eq_true] at h2
  obtain ⟨_, ⟨h3, h4⟩, h5⟩ := h2
  have e1 : ss[k].name.toList.isEmpty = true := by
    rcases h3 with h3 | h3
    · exact absurd h3 (by decide)
    · exact h3
  have e2 : ss[k].arg = 0 := by
    rcases h4 with h4 | h4
    · exact absurd h4 (by decide)
    · simpa using h4
  have e3 : ss[k].expr = [] := by
    rcases h5 with h5 | h5
    · exact absurd h5 (by decide)
    · exact List.eq_nil_of_length_eq_zero (by simpa using h5)
  exact ⟨h1, empty_of e1, e2, rfl, e3⟩
theorem cnt_one (l : List PT) : (l.map (cnt 1)).sum = l.length := by
  induction l with
  | nil => rfl
  | cons t l ih =>
    have e : cnt 1 t = 1 := by
      have : ∀ (ks : List PT), (ks.map (cnt 0)).sum = 0 := fun ks => by induction ks with
        | nil => rfl
        | cons a ks ih => rw [List.map_cons, List.sum_cons, ih]; rfl
      rw [cnt, this]
    rw [List.map_cons, List.sum_cons, ih, e, List.length_cons]
    omega
theorem SB_mono : ∀ {f n : Nat}, SB f ≤ SB (f + n)
  | f, 0 => Nat.le_refl _
  | f, n + 1 => by
    have h := SB_mono (f := f) (n := n)
    have e : SB (f + (n + 1)) = 1 + 24 * SB (f + n) := rfl
    omega
theorem line_few {ss : List StepD} (hl : ss.length ≤ 24) {f : Nat} (hf : f + 1 ≤ 8) (k : Nat) : (lineT ((kidsL ss k).map (plB ss f))).length ≤ 1000000000000 := by
  have h1 := line_sum 1 (SB f) ((kidsL ss k).map (plB ss f)) (fun x hx F => by obtain ⟨j, _, rfl⟩ := List.mem_map.1 hx; exact cnt_plB hl f j F)
  rw [cnt_one, List.length_map] at h1
  have h2 : (kidsL ss k).length * SB f ≤ 24 * SB f := Nat.mul_le_mul_right _ (kids_le hl k)
  have e : SB (f + 1) = 1 + 24 * SB f := rfl
  have h3 := SB_mono (f := f + 1) (n := 8 - (f + 1))
  have e8 : f + 1 + (8 - (f + 1)) = 8 := by omega
  rw [e8] at h3
  have := SB8
  omega
/-- What the program's steps with places are, and that there is no fault. -/
structure Env (ss : List StepD) (u : Value) (wp : World) : Prop where
  at' : PAt wp ss u
  pf : pFault ss = 0
  len : ss.length ≤ 24
abbrev Old (wp : World) : Nat → Prop := fun b => b < wp.heap.size
def PB (ss : List StepD) (u : Value) (wp : World) (f : Nat) : Prop := ∀ (k : Nat) (hk : k < ss.length) (w : World), Below wp.heap.size wp w → 8 ≤ f + deepG ss k →
  Calls Tryd.prog 22 #[u, .int .i64 (k : Int)] w fun e w' => (∃ v, e = .returned v ∧ BV (Or' (Old wp) w.heap.size) f w' v (plB ss f k)) ∧ Below w.heap.size w w'
theorem nds_old {wp w : World} {v : Value} {l : List NodeD} (h : Nd.At wp 0 v l) (hb : Below wp.heap.size wp w) : NdS (Old wp) w v l := by
  refine ⟨h.below hb, ?_⟩
  obtain ⟨a, cap, e, _, _, h1⟩ := h
  rcases h1 with h1 | ⟨g, o, rfl, _, hg, _⟩
  · exact .inl h1
  · refine .inr (fun g' o' n c e' => ?_)
    rw [e] at e'
    cases e'
    exact hg
theorem take_map {ss : List StepD} {f j : Nat} {ks : List Nat} (h : j < ks.length) : (ks.take (j + 1)).map (plB ss f) = (ks.take j).map (plB ss f) ++ [plB ss f ks[j]] := by
  rw [List.take_succ_eq_append_getElem h, List.map_append]; rfl
set_option maxRecDepth 100000 in
set_option maxHeartbeats 4000000 in
theorem plainStep (ss : List StepD) (u : Value) (wp : World) (f : Nat) (he : Env ss u wp) (hf : f + 1 ≤ 8) (hPB : PB ss u wp f) : PB ss u wp (f + 1) := by
  intro k hk w hb hd
  obtain ⟨gs, cu, rfl, hgs, hc⟩ := he.at'
  obtain ⟨kv, vc, ve, p0, p1, p2, p3, p4, p5, p6, p7, p8, hp⟩ := hc k hk
  have cl : ∀ {o : Nat} {v : Value}, wp.cell? ⟨gs, o, none⟩ = some v → w.cell? ⟨gs, o, none⟩ = some v := fun h => (hb.cell (p := ⟨gs, _, none⟩) hgs).trans h
  have c0 := cl p0
  have c1 := cl p1
  have c2 := cl p2
  have c3 := cl p3
  have c4 := cl p4
  have c5 := cl p5
  have c6 := cl p6
  have c7 := cl p7
  have c8 := cl p8
  have HKL : Hid ((kidsL ss k).length ≤ 24) := hid (kids_le he.len k)
  have HKM : Hid (∀ (m : Nat) (hm : m < (kidsL ss k).length), (kidsL ss k)[m] < ss.length ∧ 8 ≤ f + deepG ss (kidsL ss k)[m]) := hid (fun m hm => by
    have h1 := kid_mem (List.getElem_mem hm)
    have h2 := kid_deep he.pf hk (List.getElem_mem hm)
    exact ⟨h1.1, by omega⟩)
  have HLF := hid (line_few (f := f) he.len hf k)
  obtain ⟨ak, ck, rfl⟩ := hp.kids.slice
  obtain ⟨ac, cc, rfl⟩ := hp.cond.slice
  obtain ⟨ae, ce, rfl⟩ := hp.expr.slice
  have hlss := he.len
  obtain ⟨i0, hi0, hz0, hz1, hz2⟩ := info_parts infoBlock
  obtain ⟨w0, hw0⟩ : ∃ w0, w0 = (w.alloc (.cells #[.int .i64 0, .int .i64 0, .string { data := #[] }, .int .i64 0, .slice none 0 0, .slice none 0 0, .slice none 0 0] 51)).alloc (.cells #[.int .i64 (k : Int), .int .i64 ((path ss (k + 1)).length : Int), .slice ak (kidsL ss k).length ck, .int .i64 ss[k].kind, .int .i64 ss[k].parent, .string ss[k].name, .int .i64 ss[k].arg, .slice ac ss[k].cond.length cc, .slice ae ss[k].expr.length ce] 60) := ⟨_, rfl⟩
  have hb0 : Below w.heap.size w w0 := by rw [hw0]; exact ((Below.refl _ w).alloc (Nat.le_refl _) _).alloc (by simp) _
  have hsz : w0.heap.size = w.heap.size + 2 := by rw [hw0]; simp
  have hr0 : w0.heap[w.heap.size]? = some (.cells #[.int .i64 0, .int .i64 0, .string { data := #[] }, .int .i64 0, .slice none 0 0, .slice none 0 0, .slice none 0 0] 51) := by rw [hw0]; exact (Below.heap_alloc _ _ _ (by simp)).trans (heap_new w _)
  have hx0 : w0.heap[w.heap.size + 1]? = some (.cells #[.int .i64 (k : Int), .int .i64 ((path ss (k + 1)).length : Int), .slice ak (kidsL ss k).length ck, .int .i64 ss[k].kind, .int .i64 ss[k].parent, .string ss[k].name, .int .i64 ss[k].arg, .slice ac ss[k].cond.length cc, .slice ae ss[k].expr.length ce] 60) := by
    have := heap_new (w.alloc (.cells #[.int .i64 0, .int .i64 0, .string { data := #[] }, .int .i64 0, .slice none 0 0, .slice none 0 0, .slice none 0 0] 51)) (.cells #[.int .i64 (k : Int), .int .i64 ((path ss (k + 1)).length : Int), .slice ak (kidsL ss k).length ck, .int .i64 ss[k].kind, .int .i64 ss[k].parent, .string ss[k].name, .int .i64 ss[k].arg, .slice ac ss[k].cond.length cc, .slice ae ss[k].expr.length ce] 60)
    rw [World.size_alloc] at this
    rw [hw0]
    exact this
  have q1 : (k : Int) < (ss.length : Int) := by omega
  have zg := Nat.lt_of_lt_of_le hgs hb.size
  have HB0 := hid hb0
  have HBP := hid (hb.trans (hb0.mono hb.size))
  have HR0 := hid hr0
  have HX0 := hid hx0
  have HZ0 := hid hsz
  have HWP := hid hb.size
  have HP := hid hp
  have HHP := hid hPB
  have HSQ := hid (fun h => seq_step he.pf hk h)
  have HPL : Hid (plB ss (f + 1) k = if ss[k].kind = 1 then wholeT ss[k] (lineT ((kidsL ss k).map (plB ss f))) else ⟨ss[k], (kidsL ss k).map (plB ss f)⟩) := hid (by rw [plB, PJ_eq hk])
  clear hp hPB hb0 hsz hr0 hx0 hb he p0 p1 p2 p3 p4 p5 p6 p7 p8 cl hc hd
  generalize hks : kidsL ss k = ks at *
  have HKS := hid hks
  clear hks
  go_enter Tryd.func22, Tryd.ntmps22
  go_wp2
  rw [← hw0]
  clear hw0 c0 c1 c2 c3 c4 c5 c6 c7 c8
  go_loopw [6, 17] (fun o i wr => ∃ (j : Nat), i = .int .i64 j ∧ j ≤ ks.length ∧ (∃ a7 n7 c7, o = .slice a7 n7 c7) ∧ Hid (RowB (Old wp) w0.heap.size 51 f wr o ((ks.take j).map (plB ss f))) ∧ Hid (Below w0.heap.size w0 wr)) (fun _ i _ => ks.length - (intOf i).toNat)
  case atStart => exact ⟨0, rfl, Nat.zero_le _, ⟨_, _, _, rfl⟩, hid (RowB.nil _ _ _ _ _), hid (Below.refl _ _)⟩
  case round =>
    obtain ⟨j, rfl, hjl, ⟨a7, n7, c7, rfl⟩, HO, HB⟩ := hrel
    have hkl := HKL.out
    have lw := HB.out.size
    have hsz := HZ0.out
    have hwp := HWP.out
    have HA0 : Hid (∀ b, Old wp b → b < w0.heap.size) := hid (fun b hb => by unfold Old at hb; omega)
    have HBR := hid (HBP.out.trans (HB.out.mono (by omega)))
    by_cases hlt : j < ks.length
    · have q2 : (j : Int) < (ks.length : Int) := by omega
      obtain ⟨bk, cap, e1, hbk, _, _, hcs⟩ := kids_at HP.out.kids (by rw [HKS.out]; omega)
      rw [HKS.out] at e1
      obtain ⟨rfl, rfl⟩ : ak = some ⟨bk, 0, none⟩ ∧ ck = cap := by simpa using e1
      have d0 : wr.cell? ⟨bk, j, none⟩ = some (.int .i64 (ks[j] : Int)) := (HBR.out.cell (p := ⟨bk, j, none⟩) hbk).trans ((hcs j (by rw [HKS.out]; exact hlt)).trans (by simp only [HKS.out]))
      have zb : bk < wr.heap.size := by omega
      have hkm := HKM.out j hlt
      have HQL := hid (HHP.out ks[j] hkm.1 wr HBR.out hkm.2)
      have HTM := hid (take_map (ss := ss) (f := f) hlt)
      have hn7 : n7 = ((ks.take j).map (plB ss f)).length := by
        obtain ⟨a', c', e'⟩ := HO.out.slice
        cases e'; rfl
      have hn24 : ((ks.take j).map (plB ss f)).length ≤ 24 := by simp; omega
      subst hn7
      clear e1 hcs hkm
      generalize plB ss f ks[j] = q at *
      generalize ks[j] = m at *
      generalize hL : (ks.take j).map (plB ss f) = L at *
      clear hL
      go_wp2_with fail
      refine HQL.out.mono ?_
      rintro e w1 ⟨⟨v1, rfl, hv1⟩, hb1⟩
      obtain ⟨p, vcq, veq, vkq, rfl, hv2, hv3, hv4⟩ := hv1
      obtain ⟨ax, cx, rfl⟩ := hv2.slice
      obtain ⟨ay, cy, rfl⟩ := hv3.slice
      obtain ⟨az, cz, rfl⟩ := hv4.slice
      have hb2 : Below w1.heap.size w1 (w1.alloc (.cells #[.int .i64 q.s.kind, .int .i64 p, .string q.s.name, .int .i64 q.s.arg, .slice ax q.s.cond.length cx, .slice ay q.s.expr.length cy, .slice az q.kids.length cz] 51)) := (Below.refl _ w1).alloc (Nat.le_refl _) _
      have hb3 := hb1.trans (hb2.mono hb1.size)
      obtain ⟨cf, ho, hcf⟩ := HO.out.below hb3
      have HOX := hid ho
      have HCF := hid hcf
      have HB3 := hid hb3
      have HSX : Hid (∀ b, Or' (Old wp) wr.heap.size b → Sx (Old wp) w0.heap.size (.slice a7 L.length c7) b) := hid (sx_of (hi := wr.heap.size) (fun b hb => by
        obtain ⟨cg, hg, _⟩ := HO.out
        exact Nst.own_lt hg hb) HA0.out (fun b hb => hb) lw)
      have HDD : Hid (∀ j (h : j < [q].length), C7 (Sx (Old wp) w0.heap.size (.slice a7 L.length c7)) (w1.alloc (.cells #[.int .i64 q.s.kind, .int .i64 p, .string q.s.name, .int .i64 q.s.arg, .slice ax q.s.cond.length cx, .slice ay q.s.expr.length cy, .slice az q.kids.length cz] 51)) (KAt (Sx (Old wp) w0.heap.size (.slice a7 L.length c7)) f (w1.alloc (.cells #[.int .i64 q.s.kind, .int .i64 p, .string q.s.name, .int .i64 q.s.arg, .slice ax q.s.cond.length cx, .slice ay q.s.expr.length cy, .slice az q.kids.length cz] 51))) ((fun _ => [.int .i64 q.s.kind, .int .i64 p, .string q.s.name, .int .i64 q.s.arg, .slice ax q.s.cond.length cx, .slice ay q.s.expr.length cy, .slice az q.kids.length cz]) j) [q][j]) := hid (fun j h => by
        obtain rfl : j = 0 := by simpa using h
        exact ⟨p, _, _, _, rfl, (hv2.below hb2).mono (fun b _ hb => HSX.out b hb), (hv3.below hb2).mono (fun b _ hb => HSX.out b hb), KAt.mono (fun b _ hb => HSX.out b hb) f (hv4.below hb2)⟩)
      have HROW : Hid (Ap.Row (w1.alloc (.cells #[.int .i64 q.s.kind, .int .i64 p, .string q.s.name, .int .i64 q.s.arg, .slice ax q.s.cond.length cx, .slice ay q.s.expr.length cy, .slice az q.kids.length cz] 51)) 7 (.slice (some ⟨w1.heap.size, 0, none⟩) 1 1) 1 [.int .i64 q.s.kind, .int .i64 p, .string q.s.name, .int .i64 q.s.arg, .slice ax q.s.cond.length cx, .slice ay q.s.expr.length cy, .slice az q.kids.length cz]) := hid ⟨_, _, rfl, rfl, (by simp [Value.oneCell']), .inr ⟨_, rfl, seven _ rfl _ _ _ _ _ _ _ _⟩⟩
      have l1 := hb1.size
      clear hv2 hv3 hv4 hb1 hb2 hb3 ho hcf HO HQL
      go_wp2_with (at_builtin; go_must (refine Ap.wpList_any _ rfl _ _ 49 rfl w0.heap.size 51 i0 (.agg #[.int .i64 0, .int .i64 0, .string { data := #[] }, .int .i64 0, .slice none 0 0, .slice none 0 0, .slice none 0 0]) 7 112 Tryd.underlying49 hi0 hz0 hz1 hz2 rfl (by decide) _ _ _ rfl HOX.out _ _ _ rfl HROW.out (by unfold maxLen; omega) (by omega) (by simp; omega) _ rfl ?_); intro a9 c9 w9 hown9 hg9 hat9)
      have HO9 := hid (RowB.append (m := [q]) HOX.out HCF.out HDD.out hown9 hg9 hat9)
      have HB9 : Hid (Below w0.heap.size w0 w9) := hid ((HB.out.trans (HB3.out.mono lw)).grown hg9 (by simp; omega) (fun b e => (Nst.own_lt HOX.out e).1))
      clear hown9 hg9 hat9
      go_wp2
      exact ⟨⟨j + 1, by simp, by omega, ⟨_, _, _, rfl⟩, hid (by rw [HTM.out]; exact HO9.out), HB9⟩, by simp [intOf]; omega⟩
    · have q2 : ¬ (j : Int) < (ks.length : Int) := by omega
      have hjn : j = ks.length := by omega
      have HO1 : Hid (RowB (Old wp) w0.heap.size 51 f wr (.slice a7 n7 c7) (ks.map (plB ss f))) := hid (by
        have := HO.out
        rw [hjn, List.take_length] at this
        exact this)
      have hrr : wr.heap[w.heap.size]? = some (.cells #[.int .i64 0, .int .i64 0, .string { data := #[] }, .int .i64 0, .slice none 0 0, .slice none 0 0, .slice none 0 0] 51) := (HB.out.block _ (by omega)).trans HR0.out
      have hxx : wr.heap[w.heap.size + 1]? = some (.cells #[.int .i64 (k : Int), .int .i64 ((path ss (k + 1)).length : Int), .slice ak ks.length ck, .int .i64 ss[k].kind, .int .i64 ss[k].parent, .string ss[k].name, .int .i64 ss[k].arg, .slice ac ss[k].cond.length cc, .slice ae ss[k].expr.length ce] 60) := (HB.out.block _ (by omega)).trans HX0.out
      have xc : ∀ i v, #[Value.int .i64 (k : Int), .int .i64 ((path ss (k + 1)).length : Int), .slice ak ks.length ck, .int .i64 ss[k].kind, .int .i64 ss[k].parent, .string ss[k].name, .int .i64 ss[k].arg, .slice ac ss[k].cond.length cc, .slice ae ss[k].expr.length ce][i]? = some v → wr.cell? ⟨w.heap.size + 1, i, none⟩ = some v := fun i v h => by simp only [World.cell?, hxx]; simpa using h
      have x3 := xc 3 _ rfl
      have x4 := xc 4 _ rfl
      have x5 := xc 5 _ rfl
      have x6 := xc 6 _ rfl
      have x7 := xc 7 _ rfl
      have x8 := xc 8 _ rfl
      have HCO := hid (nds_old HP.out.cond HBR.out)
      have HEX := hid (nds_old HP.out.expr HBR.out)
      have HKD := hid HO1.out.done
      have HBW := hid (HB0.out.trans (HB.out.mono (by omega)))
      have zl : w.heap.size < wr.heap.size := by omega
      have HRR := hid hrr
      clear xc hxx HO hjn
      by_cases hkd : ss[k].kind = 1
      · have b1 : (ss[k].kind == 1) = true := by simp [hkd]
        have HPT : Hid (plB ss (f + 1) k = wholeT ss[k] (lineT (ks.map (plB ss f)))) := hid (by rw [HPL.out, if_pos hkd])
        have HLB := hid (lineBlock (fun b => Or' (Old wp) w0.heap.size b ∧ b < wr.heap.size) f (ks.map (plB ss f)) ss[k].cond ss[k] (.slice a7 n7 c7) (.slice ac ss[k].cond.length cc) wr (fun b hb => hb.2) (KAt.mono (fun b hl hb => ⟨hb, hl⟩) (f + 1) HKD.out) (HCO.out.mono (fun b hl hb => ⟨.inl hb, hl⟩)) HLF.out (HSQ.out hkd))
        clear hkd hrr
        go_wp2_with fail
        refine HLB.out.mono ?_
        rintro e w5 ⟨⟨v5, rfl, hv5⟩, hb5⟩
        obtain ⟨p, vcq, veq, vkq, rfl, hv2, hv3, hv4⟩ := hv5
        obtain ⟨ax, cx, rfl⟩ := hv2.slice
        obtain ⟨ay, cy, rfl⟩ := hv3.slice
        obtain ⟨az, cz, rfl⟩ := hv4.slice
        have hr5 : w5.heap[w.heap.size]? = some (.cells #[.int .i64 0, .int .i64 0, .string { data := #[] }, .int .i64 0, .slice none 0 0, .slice none 0 0, .slice none 0 0] 51) := (hb5.block _ zl).trans HRR.out
        have l5 := hb5.size
        have zl5 : w.heap.size < w5.heap.size := by omega
        have HB5 := hid (HBW.out.trans (hb5.mono (by omega)))
        have HV2 := hid hv2
        have HV3 := hid hv3
        have HV4 := hid hv4
        have zc : ∀ i v, #[Value.int .i64 0, .int .i64 0, .string { data := #[] }, .int .i64 0, .slice none 0 0, .slice none 0 0, .slice none 0 0][i]? = some v → w5.cell? ⟨w.heap.size, i, none⟩ = some v := fun i v h => by simp only [World.cell?, hr5]; simpa using h
        have zf : ∀ i, w5.frozen? ⟨w.heap.size, i, none⟩ = false := fun i => by simp [World.frozen?, hr5]
        have z0 := zc 0 _ rfl
        have f0 := zf 0
        have z1 := zc 1 _ rfl
        have f1 := zf 1
        have z2 := zc 2 _ rfl
        have f2 := zf 2
        have z3 := zc 3 _ rfl
        have f3 := zf 3
        have z4 := zc 4 _ rfl
        have f4 := zf 4
        have z5 := zc 5 _ rfl
        have f5 := zf 5
        have z6 := zc 6 _ rfl
        have f6 := zf 6
        clear zc zf
        clear hv2 hv3 hv4 hb5 HLB
        generalize wholeT ss[k] (lineT (ks.map (plB ss f))) = q at *
        go_wp2
        refine bodyPost_ret (results_cell_row Tryd.results22 _ _ w.heap.size 51 #[.int .i64 q.s.kind, .int .i64 p, .string q.s.name, .int .i64 q.s.arg, .slice ax q.s.cond.length cx, .slice ay q.s.expr.length cy, .slice az q.kids.length cz] (0, 0) _ rfl (set7 hr5 _ _ _ _ _ _ _) Tryd.underlying51 rfl (by rw [hi0]; simp [hz1])) rfl ⟨⟨_, rfl, ?_⟩, below7 HB5.out (Nat.le_refl _) _ _ _ _ _ _ _⟩
        rw [HPT.out]
        refine bv_fin (kp7 (Kp.refl _ w5) (fun h2 => ?_) _ _ _ _ _ _ _) HV2.out HV3.out HV4.out (fun b hb => ?_)
        · rcases h2 with ⟨h2 | h2, h3⟩ | h2
          · unfold Old at h2; omega
          · omega
          · omega
        · rcases hb with ⟨h2 | h2, h3⟩ | h2
          · exact .inl h2
          · exact .inr (by omega)
          · exact .inr (by omega)
      · have b1 : (ss[k].kind == 1) = false := by simp [hkd]
        have HPT : Hid (plB ss (f + 1) k = ⟨ss[k], ks.map (plB ss f)⟩) := hid (by rw [HPL.out, if_neg hkd])
        clear hkd
        have zc : ∀ i v, #[Value.int .i64 0, .int .i64 0, .string { data := #[] }, .int .i64 0, .slice none 0 0, .slice none 0 0, .slice none 0 0][i]? = some v → wr.cell? ⟨w.heap.size, i, none⟩ = some v := fun i v h => by simp only [World.cell?, hrr]; simpa using h
        have zf : ∀ i, wr.frozen? ⟨w.heap.size, i, none⟩ = false := fun i => by simp [World.frozen?, hrr]
        have z0 := zc 0 _ rfl
        have f0 := zf 0
        have z1 := zc 1 _ rfl
        have f1 := zf 1
        have z2 := zc 2 _ rfl
        have f2 := zf 2
        have z3 := zc 3 _ rfl
        have f3 := zf 3
        have z4 := zc 4 _ rfl
        have f4 := zf 4
        have z5 := zc 5 _ rfl
        have f5 := zf 5
        have z6 := zc 6 _ rfl
        have f6 := zf 6
        clear zc zf
        go_wp2
        refine bodyPost_ret (results_cell_row Tryd.results22 _ _ w.heap.size 51 #[.int .i64 ss[k].kind, .int .i64 ss[k].parent, .string ss[k].name, .int .i64 ss[k].arg, .slice ac ss[k].cond.length cc, .slice ae ss[k].expr.length ce, .slice a7 n7 c7] (0, 0) _ rfl (set7 hrr _ _ _ _ _ _ _) Tryd.underlying51 rfl (by rw [hi0]; simp [hz1])) rfl ⟨⟨_, rfl, ?_⟩, below7 HBW.out (Nat.le_refl _) _ _ _ _ _ _ _⟩
        rw [HPT.out]
        refine bv_fin (S := Or' (Old wp) w0.heap.size) (t := ⟨ss[k], ks.map (plB ss f)⟩) (kp7 (Kp.refl _ wr) (fun h2 => ?_) _ _ _ _ _ _ _) (HCO.out.mono (fun b _ hb => .inl hb)) (HEX.out.mono (fun b _ hb => .inl hb)) HKD.out (fun b hb => ?_)
        · rcases h2 with h2 | h2
          · unfold Old at h2; omega
          · omega
        · rcases hb with h2 | h2
          · exact .inl h2
          · exact .inr (by omega)
theorem PB_all {ss : List StepD} {u : Value} {wp : World} (he : Env ss u wp) : ∀ f, f ≤ 8 → PB ss u wp f
  | 0, _ => fun k hk w hb hd => absurd hd (by have := deep_le he.pf hk; omega)
  | f + 1, hf => plainStep ss u wp f he hf (PB_all he f (by omega))
end Bk
end Go.Proofs.YtedgobdnjemegaaDoor
