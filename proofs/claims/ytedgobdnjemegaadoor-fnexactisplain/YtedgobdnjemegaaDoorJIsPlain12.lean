/- Laid together: BkK, BkL. -/
import Derived.Test.YtedgobdnjemegaaDoorJIsPlain42
/- A tree as steps behind others, as the specification lists it: l7Flat. -/
namespace Go.Proofs.YtedgobdnjemegaaDoor
open Go.RowKit Go.Deep
set_option linter.unusedVariables false
namespace Bk
open Ex (hid nvals inR)
open Nd (NodeD)
open St (StepD)
open Nst (own flat flat_succ flat_congr)
open So (SOwn SJ SJ_eq SJ_left SJ_last scell)
open Pf (PJ PJ_eq kidsL pFault)
open Pl
/-- A row of steps whose nodes lie in blocks of S. -/
def FRow (S : Nat → Prop) (B : Nat) (w : World) (v : Value) (acc : List StepD) : Prop := ∃ C E : Nat → Value, w.ownsRow B 43 6 v acc.length (flat (fun j => scell (SJ acc j) (C j) (E j)) acc.length) ∧ ∀ j, j < acc.length → NdS S w (C j) (SJ acc j).cond ∧ NdS S w (E j) (SJ acc j).expr
theorem FRow.nil (S : Nat → Prop) (B : Nat) (w : World) : FRow S B w (.slice none 0 0) [] := ⟨fun _ => .slice none 0 0, fun _ => .slice none 0 0, World.ownsRow_nil w B _ 6, fun j h => by simp at h⟩
theorem FRow.slice {S : Nat → Prop} {B : Nat} {w : World} {v : Value} {acc : List StepD} (h : FRow S B w v acc) : ∃ a cap, v = .slice a acc.length cap := by
  obtain ⟨C, E, h1, _⟩ := h; exact Nst.own_slice h1
theorem FRow.below {S : Nat → Prop} {B : Nat} {w w' : World} {v : Value} {acc : List StepD} (h : FRow S B w v acc) (hb : Below w.heap.size w w') : FRow S B w' v acc := by
  obtain ⟨C, E, h1, h2⟩ := h
  exact ⟨C, E, Nst.own_kept h1 (fun b hv => hb.block b (Nst.own_lt h1 hv).2), fun j hj => ⟨(h2 j hj).1.below hb, (h2 j hj).2.below hb⟩⟩
theorem FRow.push {S : Nat → Prop} {B : Nat} {w w2 : World} {v v' vc ve : Value} {acc : List StepD} {x : StepD} {C E : Nat → Value} (hS : ∀ b, S b → b < B) (h1 : w.ownsRow B 43 6 v acc.length (flat (fun j => scell (SJ acc j) (C j) (E j)) acc.length)) (h2 : ∀ j, j < acc.length → NdS S w (C j) (SJ acc j).cond ∧ NdS S w (E j) (SJ acc j).expr) (hc : NdS S w vc x.cond) (he : NdS S w ve x.expr)
    (hown : w2.ownsRow B 43 6 v' (acc.length + 1) (flat (fun j => scell (SJ acc j) (C j) (E j)) acc.length ++ scell x vc ve)) (hg : w.grownBy w2 v.ownBlock) : FRow S B w2 v' (acc ++ [x]) := by
  have hk : Kp S w w2 := (Kp.refl _ _).grown hg (fun b hb e => by have := (Nst.own_lt h1 (show own v b from e.symm)).1; have := hS b hb; omega)
  refine ⟨fun j => if j = acc.length then vc else C j, fun j => if j = acc.length then ve else E j, ?_, fun j hj => ?_⟩
  · rw [List.length_append, List.length_singleton, flat_succ]
    have e : flat (fun j => scell (SJ (acc ++ [x]) j) (if j = acc.length then vc else C j) (if j = acc.length then ve else E j)) acc.length = flat (fun j => scell (SJ acc j) (C j) (E j)) acc.length := flat_congr (fun j hj => by
      have e2 : ¬ j = acc.length := by omega
      simp only [e2, if_false, SJ_left hj])
    rw [e]
    simp only [if_true, SJ_last]
    exact hown
  · by_cases e : j = acc.length
    · subst e
      simp only [if_true, SJ_last]
      exact ⟨hc.kp hk, he.kp hk⟩
    · have hl : j < acc.length := by rw [List.length_append, List.length_singleton] at hj; omega
      simp only [e, if_false, SJ_left hl]
      exact ⟨(h2 j hl).1.kp hk, (h2 j hl).2.kp hk⟩
theorem FRow.steps {S : Nat → Prop} {B : Nat} {w : World} {v : Value} {ss : List StepD} (h : FRow S B w v ss) : St.At w 0 v ss := by
  obtain ⟨C, E, h, hn⟩ := h
  rcases Nat.eq_zero_or_pos ss.length with h0 | h0
  · have e : ss = [] := List.eq_nil_of_length_eq_zero h0
    subst e
    rcases h.2 with ⟨rfl, _⟩ | ⟨g, cap, cur, rfl, _, _, _, hm, _⟩
    · exact ⟨_, _, rfl, Nat.le_refl _, Nat.zero_le _, .inl rfl⟩
    · exact ⟨_, _, rfl, Nat.zero_le _, hm, .inl rfl⟩
  · obtain ⟨g, cap, rfl, hB, hg, hc, hm⟩ := Nst.own_some h h0
    refine ⟨_, _, rfl, hc, hm, .inr ⟨g, 0, rfl, Nat.zero_le _, hg, fun i hi => ?_⟩⟩
    have hl : ∀ j, j < ss.length → (scell (SJ ss j) (C j) (E j)).length = 6 := fun j _ => rfl
    have cc : ∀ q, q < 6 → w.cell? ⟨g, i * 6 + q, none⟩ = (scell (SJ ss i) (C i) (E i))[q]? := fun q hq => by rw [h.cellAt (i * 6 + q) (Nst.mul_lt hi hq)]; exact Nst.flat_get hl hi hq
    have c0 := cc 0 (by omega)
    have c1 := cc 1 (by omega)
    have c2 := cc 2 (by omega)
    have c3 := cc 3 (by omega)
    have c4 := cc 4 (by omega)
    have c5 := cc 5 (by omega)
    have hni := hn i hi
    rw [SJ_eq hi] at c0 c1 c2 c3 c4 c5 hni
    rw [Nat.zero_add]
    exact ⟨c0, c1, c2, c3, C i, E i, c4, c5, hni.1.1, hni.2.1⟩
/-- A tree at a pointer. -/
structure PtrAt (S : Nat → Prop) (f : Nat) (w : World) (g o : Nat) (t : PT) (p : Int) (vc ve vk : Value) : Prop where
  mem : S g
  lt : g < w.heap.size
  c0 : w.cell? ⟨g, o, none⟩ = some (.int .i64 t.s.kind)
  c1 : w.cell? ⟨g, o + 1, none⟩ = some (.int .i64 p)
  c2 : w.cell? ⟨g, o + 2, none⟩ = some (.string t.s.name)
  c3 : w.cell? ⟨g, o + 3, none⟩ = some (.int .i64 t.s.arg)
  c4 : w.cell? ⟨g, o + 4, none⟩ = some vc
  c5 : w.cell? ⟨g, o + 5, none⟩ = some ve
  c6 : w.cell? ⟨g, o + 6, none⟩ = some vk
  cond : NdS S w vc t.s.cond
  expr : NdS S w ve t.s.expr
  kids : KAt S f w vk t.kids
def SFl (f : Nat) : Prop := ∀ (S : Nat → Prop) (B0 : Nat) (acc : List StepD) (t : PT) (par p : Int) (v vc ve vk : Value) (g o : Nat) (w : World), B0 ≤ w.heap.size → (∀ b, S b → b < B0) → FRow S B0 w v acc → PtrAt S f w g o t p vc ve vk → (lst (f + 1) acc t par).length ≤ 1000000000000 →
  Calls Tryd.prog 35 #[v, .pointer (some ⟨g, o, none⟩), .int .i64 par] w fun e w' => (∃ v', e = .returned v' ∧ FRow S B0 w' v' (lst (f + 1) acc t par)) ∧ Below B0 w w'
set_option maxRecDepth 100000 in
set_option maxHeartbeats 8000000 in
theorem flatStep (f : Nat) (IH : ∀ f', f = f' + 1 → SFl f') : SFl f := by
  intro S B0 acc t par p v vc ve vk g o w hB0 hS hfr hpt hlen
  obtain ⟨ac, cc, rfl⟩ := hpt.cond.slice
  obtain ⟨ae, ce, rfl⟩ := hpt.expr.slice
  obtain ⟨ak, ck, rfl⟩ := hpt.kids.slice
  obtain ⟨av, cv, rfl⟩ := hfr.slice
  obtain ⟨j0, hj, hy0, hy1, hy2⟩ := info_parts So.infoStep
  have hkl : t.kids.length ≤ maxLen := by have := hpt.kids.cap; omega
  unfold maxLen at hkl
  have hal1 : acc.length + 1 ≤ 1000000000000 := by rw [lst_len, cnt] at hlen; omega
  have HLN : Hid (∀ m, (lstK f acc t par m).length ≤ 1000000000000) := hid (fun m => Nat.le_trans (lstK_le _ _ _ _ _) hlen)
  have HLL : Hid (∀ m (h : m < t.kids.length), (lst f (lstK f acc t par m) t.kids[m] (acc.length : Int)).length ≤ 1000000000000) := hid (fun m h => Nat.le_trans (lstK_lst_le _ _ _ _ h) hlen)
  obtain ⟨w0, hw0⟩ : ∃ w0, w0 = w.alloc (.cells #[.int .i64 t.s.kind, .int .i64 par, .string t.s.name, .int .i64 t.s.arg, .slice ac t.s.cond.length cc, .slice ae t.s.expr.length ce] 43) := ⟨_, rfl⟩
  have hb0 : Below w.heap.size w w0 := by rw [hw0]; exact (Below.refl _ w).alloc (Nat.le_refl _) _
  have hx0 : w0.heap[w.heap.size]? = some (.cells #[.int .i64 t.s.kind, .int .i64 par, .string t.s.name, .int .i64 t.s.arg, .slice ac t.s.cond.length cc, .slice ae t.s.expr.length ce] 43) := by rw [hw0]; exact heap_new w _
  have hz0 : w0.heap.size = w.heap.size + 1 := by rw [hw0]; simp
  have y0 : w0.cell? ⟨w.heap.size, 0, none⟩ = some (.int .i64 t.s.kind) := bcell hx0 0
  have y1 : w0.cell? ⟨w.heap.size, 1, none⟩ = some (.int .i64 par) := bcell hx0 1
  have y2 : w0.cell? ⟨w.heap.size, 2, none⟩ = some (.string t.s.name) := bcell hx0 2
  have y3 : w0.cell? ⟨w.heap.size, 3, none⟩ = some (.int .i64 t.s.arg) := bcell hx0 3
  have y4 : w0.cell? ⟨w.heap.size, 4, none⟩ = some (.slice ac t.s.cond.length cc) := bcell hx0 4
  have y5 : w0.cell? ⟨w.heap.size, 5, none⟩ = some (.slice ae t.s.expr.length ce) := bcell hx0 5
  have zl : w.heap.size < w0.heap.size := by omega
  have hbA : Below w.heap.size w (w0.alloc (.cells #[.int .i64 t.s.kind, .int .i64 par, .string t.s.name, .int .i64 t.s.arg, .slice ac t.s.cond.length cc, .slice ae t.s.expr.length ce] 43)) := hb0.alloc (by omega) _
  obtain ⟨C, E, ho, hn⟩ := hfr.below hbA
  have HOX := hid ho
  have HNX := hid hn
  have HCX := hid (hpt.cond.below hbA)
  have HEX := hid (hpt.expr.below hbA)
  have HROW : Hid (Ap.Row (w0.alloc (.cells #[.int .i64 t.s.kind, .int .i64 par, .string t.s.name, .int .i64 t.s.arg, .slice ac t.s.cond.length cc, .slice ae t.s.expr.length ce] 43)) 6 (.slice (some ⟨w0.heap.size, 0, none⟩) 1 1) 1 [.int .i64 t.s.kind, .int .i64 par, .string t.s.name, .int .i64 t.s.arg, .slice ac t.s.cond.length cc, .slice ae t.s.expr.length ce]) := hid ⟨_, _, rfl, rfl, (by simp [Value.oneCell']), .inr ⟨_, rfl, So.news #[.int .i64 t.s.kind, .int .i64 par, .string t.s.name, .int .i64 t.s.arg, .slice ac t.s.cond.length cc, .slice ae t.s.expr.length ce] _ _ rfl⟩⟩
  have HBA := hid hbA
  have HPT := hid hpt
  have HS := hid hS
  have HB := hid hB0
  have p0 := hpt.c0
  have p1 := hpt.c1
  have p2 := hpt.c2
  have p3 := hpt.c3
  have p4 := hpt.c4
  have p5 := hpt.c5
  have zg := hpt.lt
  clear hb0 hx0 hz0 hbA ho hn hfr hpt hS hB0 hlen
  go_enter Tryd.func35, Tryd.ntmps35
  go_upto_region 3 with fail
  rw [← hw0]
  clear hw0 p0 p1 p2 p3 p4 p5
  have hB := HB.out
  go_upto_region 5 with (at_builtin; go_must (refine Ap.wpList_any _ rfl _ _ 24 rfl B0 43 j0 (.agg #[.int .i64 0, .int .i64 0, .string ⟨#[]⟩, .int .i64 0, .slice none 0 0, .slice none 0 0]) 6 88 Tryd.underlying24 hj hy0 hy1 hy2 rfl (by decide) _ _ _ rfl HOX.out _ _ _ rfl HROW.out (by unfold maxLen; omega) (by omega) (by simp; omega) _ rfl ?_); intro a9 c9 w9 hown9 hg9 hat9)
  have HO9 : Hid (FRow S B0 w9 (.slice a9 (acc.length + 1) c9) (acc ++ [{ t.s with parent := par }])) := hid (FRow.push (x := { t.s with parent := par }) HS.out HOX.out HNX.out HCX.out HEX.out hown9 hg9)
  have HB9 : Hid (Below B0 w w9) := hid ((HBA.out.mono hB).grown hg9 (by simp; omega) (fun b e => (Nst.own_lt HOX.out e).1))
  clear hown9 hg9 hat9 y0 y1 y2 y3 y4 y5
  go_wp2
  go_loopw [0, 9] (fun lv i wr => ∃ (j : Nat), i = .int .i64 j ∧ j ≤ t.kids.length ∧ (∃ a n c, lv = .slice a n c) ∧ Hid (FRow S B0 wr lv (lstK f acc t par j)) ∧ Hid (Below B0 w wr)) (fun _ i _ => t.kids.length - (intOf i).toNat)
  case atStart => exact ⟨0, rfl, Nat.zero_le _, ⟨_, _, _, rfl⟩, hid (by rw [lstK_zero]; exact HO9.out), HB9⟩
  case round =>
    obtain ⟨j, rfl, hjl, ⟨a7, n7, c7, rfl⟩, HO, HBW⟩ := hrel
    have lw := HBW.out.size
    have d6 : wr.cell? ⟨g, o + 6, none⟩ = some (.slice ak t.kids.length ck) := (HBW.out.cell (p := ⟨g, o + 6, none⟩) (HS.out g HPT.out.mem)).trans HPT.out.c6
    have zg2 : g < wr.heap.size := by omega
    by_cases hlt : j < t.kids.length
    · have q1 : (j : Int) < (t.kids.length : Int) := by omega
      obtain ⟨f', rfl⟩ := kat_succ HPT.out.kids (by omega)
      have hkk : KAt S (f' + 1) wr (.slice ak t.kids.length ck) t.kids := KAt.keep lw (fun g hg _ => HBW.out.block g (HS.out g hg)) _ HPT.out.kids
      obtain ⟨g2, p2, vc, ve, vk, rfl, hSg, hg, c0, c1', c2', c3, c4, c5, c6, d1, d2, d3⟩ := hkk.at hlt
      have HLS := hid (lstK_succ (f' + 1) acc t par hlt)
      have HCL := hid (IH f' rfl S B0 (lstK (f' + 1) acc t par j) t.kids[j] (acc.length : Int) p2 (.slice a7 n7 c7) vc ve vk g2 (j * 7) wr (by omega) HS.out HO.out ⟨hSg, hg, c0, c1', c2', c3, c4, c5, c6, d1, d2, d3⟩ (HLL.out j hlt))
      clear d1 d2 d3 hkk c0 c1' c2' c3 c4 c5 c6
      generalize t.kids[j] = q at *
      go_wp2_with fail
      refine HCL.out.mono ?_
      rintro e w5 ⟨⟨v5, rfl, h5⟩, hb5⟩
      obtain ⟨a8, c8, rfl⟩ := h5.slice
      have HO5 := hid h5
      have HB5 := hid (HBW.out.trans hb5)
      clear h5 hb5 HCL d6
      go_wp2
      exact ⟨⟨j + 1, by simp, by omega, ⟨_, _, _, rfl⟩, hid (by rw [HLS.out]; exact HO5.out), HB5⟩, by simp [intOf]; omega⟩
    · have q1 : ¬ (j : Int) < (t.kids.length : Int) := by omega
      have hjn : j = t.kids.length := by omega
      have HO1 : Hid (FRow S B0 wr (.slice a7 n7 c7) (lst (f + 1) acc t par)) := hid (by
        have := HO.out
        rw [hjn, lstK_all] at this
        exact this)
      clear HO hjn
      go_wp2
      go_ret
      exact ⟨⟨_, rfl, HO1.out⟩, HBW.out⟩
theorem fl_all : ∀ f, SFl f
  | 0 => flatStep 0 (fun f' h => by omega)
  | f + 1 => flatStep (f + 1) (fun f' h => by obtain rfl : f = f' := by omega
                                              exact fl_all f)
end Bk
end Go.Proofs.YtedgobdnjemegaaDoor
/- The specification's PlainOf. -/
namespace Go.Proofs.YtedgobdnjemegaaDoor
open Go.RowKit Go.Deep
set_option linter.unusedVariables false
namespace Bk
open Ex (hid nvals inR)
open Nd (NodeD)
open St (StepD)
open Nst (own flat)
open So (SOwn)
open Pf (PJ PJ_eq kidsL pFault of_p specFault)
open Pl
set_option maxRecDepth 100000 in
set_option maxHeartbeats 4000000 in
theorem specPlainL (B : Nat) (ss : List StepD) (v : Value) (w : World) (hpf : pFault ss = 0) (hsm : St.Small 1048576 ss) (ha : St.At w B v ss) :
    Calls Tryd.prog 18 #[v] w fun e w' => (∃ u, e = .returned u ∧ SOwn w' w.heap.size u (plainL ss)) ∧ Below w.heap.size w w' := by
  have hlen : ss.length ≤ 24 := by have := of_p hpf; omega
  have h0 : 0 < ss.length := by have := of_p hpf; omega
  have hd0 : deepG ss 0 = 1 := rfl
  have HG := hid (grow_all hpf hlen ha 8 0 h0 w (Below.refl _ _) (by omega))
  have HSP := hid (small_plain (n := 1048576) (by omega) hsm.2)
  have hpl := plain_len hpf
  have HLN : Hid ((lst 9 [] (plB ss 8 0) (-1)).length ≤ 1000000000000) := hid (by unfold plainL at hpl; omega)
  have HLP : Hid ((plainL ss).length ≤ 1048576) := hid (by omega)
  have HP := hid hpf
  obtain ⟨a, cap, rfl⟩ := ha.slice
  clear ha hsm hpf hpl
  go_enter Tryd.func18, Tryd.ntmps18
  go_wp2_with fail
  refine HG.out.mono ?_
  rintro e w1 ⟨⟨x1, rfl, hv1⟩, hb1⟩
  have HB1 := hid hb1
  have HPL := hid (pl_all HP.out hlen 8 (Nat.le_refl _) (fun b => b < w1.heap.size) 0 h0 x1 w1 (fun b hb => hb) (hv1.mono (fun b hl _ => hl)) (by omega))
  obtain ⟨p, vc, ve, vk, rfl, _⟩ := hv1
  clear hb1 HG
  go_wp2_with fail
  refine HPL.out.mono ?_
  rintro e w2 ⟨⟨x2, rfl, hv2⟩, hb2⟩
  have HB2 := hid (HB1.out.trans (hb2.mono HB1.out.size))
  obtain ⟨p2, vc2, ve2, vk2, rfl, h1, h2, h3⟩ := hv2
  obtain ⟨ax, cx, rfl⟩ := h1.slice
  obtain ⟨ay, cy, rfl⟩ := h2.slice
  obtain ⟨az, cz, rfl⟩ := h3.slice
  obtain ⟨w3, hw3⟩ : ∃ w3, w3 = w2.alloc (.cells #[.int .i64 (plB ss 8 0).s.kind, .int .i64 p2, .string (plB ss 8 0).s.name, .int .i64 (plB ss 8 0).s.arg, .slice ax (plB ss 8 0).s.cond.length cx, .slice ay (plB ss 8 0).s.expr.length cy, .slice az (plB ss 8 0).kids.length cz] 66) := ⟨_, rfl⟩
  have hb3 : Below w2.heap.size w2 w3 := by rw [hw3]; exact (Below.refl _ w2).alloc (Nat.le_refl _) _
  have hx3 : w3.heap[w2.heap.size]? = some (.cells #[.int .i64 (plB ss 8 0).s.kind, .int .i64 p2, .string (plB ss 8 0).s.name, .int .i64 (plB ss 8 0).s.arg, .slice ax (plB ss 8 0).s.cond.length cx, .slice ay (plB ss 8 0).s.expr.length cy, .slice az (plB ss 8 0).kids.length cz] 66) := by rw [hw3]; exact heap_new w2 _
  have zl : w2.heap.size < w3.heap.size := by rw [hw3]; simp
  have HFL := hid (fl_all 8 (fun b => b < w3.heap.size) w3.heap.size [] (plB ss 8 0) (-1) p2 (.slice none 0 0) _ _ _ w2.heap.size 0 w3 (Nat.le_refl _) (fun b hb => hb) (FRow.nil _ _ _) ⟨zl, zl, bcell hx3 0, bcell hx3 1, bcell hx3 2, bcell hx3 3, bcell hx3 4, bcell hx3 5, bcell hx3 6, (h1.below hb3).mono (fun b hl _ => hl), (h2.below hb3).mono (fun b hl _ => hl), KAt.mono (fun b hl _ => hl) 8 (h3.below hb3)⟩ HLN.out)
  have HB3 := hid (HB2.out.trans (hb3.mono HB2.out.size))
  clear hb2 h1 h2 h3 hb3 hx3 HPL
  go_wp2_with fail
  rw [← hw3]
  clear hw3
  refine HFL.out.mono ?_
  rintro e w4 ⟨⟨v4, rfl, hv4⟩, hb4⟩
  have HB4 := hid (HB3.out.trans (hb4.mono HB3.out.size))
  have HCP := hid (specCopy 0 (plainL ss) v4 w4 HLP.out HSP.out hv4.steps)
  obtain ⟨a4, c4, rfl⟩ := hv4.slice
  clear hv4 hb4 HFL
  go_wp2_with fail
  refine HCP.out.mono ?_
  rintro e w5 ⟨⟨u5, rfl, hu5⟩, hb5⟩
  obtain ⟨a5, c5, rfl⟩ := hu5.slice
  have HB5 := hid (HB4.out.trans (hb5.mono HB4.out.size))
  have HU5 := hid (hu5.mono HB4.out.size)
  clear hu5 hb5 HCP
  go_wp2
  go_ret
  exact ⟨⟨_, rfl, HU5.out⟩, HB5.out⟩
set_option maxRecDepth 100000 in
set_option maxHeartbeats 4000000 in
theorem specPlainOf (B : Nat) (ss : List StepD) (v : Value) (w : World) (hsm : St.Small 1048576 ss) (ha : St.At w B v ss) :
    Calls Tryd.prog 6 #[v] w (PlPost ss w) := by
  have hb0 : Below w.heap.size w (w.alloc (.cells #[.int .i64 0, .slice none 0 0] 26)) := (Below.refl _ w).alloc (Nat.le_refl _) _
  have HC := hid (specFault B ss v (w.alloc (.cells #[.int .i64 0, .slice none 0 0] 26)) hsm (ha.below hb0))
  obtain ⟨j2, hj2, hy20, hy21, hy22⟩ := info_parts infoProc
  have HA := hid ha
  have HSM := hid hsm
  obtain ⟨a, cap, rfl⟩ := ha.slice
  have HB0 := hid hb0
  unfold PlPost
  clear ha hsm hb0
  go_enter Tryd.func6, Tryd.ntmps6
  go_wp2_with fail
  refine HC.out.mono ?_
  rintro e w1 ⟨rfl, hb1⟩
  have hr1 : w1.heap[w.heap.size]? = some (.cells #[.int .i64 0, .slice none 0 0] 26) := (hb1.block _ (by simp)).trans (heap_new w _)
  have l1 := hb1.size
  rw [World.size_alloc] at l1
  have HB1 := hid (HB0.out.trans (hb1.mono HB0.out.size))
  have HR1 := hid hr1
  by_cases hf : pFault ss = 0
  · have HPL := hid (specPlainL B ss _ w1 hf HSM.out (HA.out.below HB1.out))
    have HPR : Hid (plainR ss = plainL ss) := hid (by unfold plainR; rw [if_pos hf])
    have HPF := hid hf
    rw [hf]
    clear HC hf hb1 hr1
    go_wp2_with fail
    refine HPL.out.mono ?_
    rintro e w3 ⟨⟨v3, rfl, hv3⟩, hb3⟩
    obtain ⟨a3, c3, rfl⟩ := hv3.slice
    have hr3 := (hb3.block _ (by omega)).trans HR1.out
    have l3 := hb3.size
    have z0 : w3.cell? ⟨w.heap.size, 0, none⟩ = some (.int .i64 0) := bcell hr3 0
    have z1 : w3.cell? ⟨w.heap.size, 1, none⟩ = some (.slice none 0 0) := bcell hr3 1
    have f0 := bfree hr3 0
    have f1 := bfree hr3 1
    have HV3 := hid hv3
    have HB3 := hid (HB1.out.trans (hb3.mono (by omega)))
    clear hv3 hb3 HPL
    go_wp2
    refine bodyPost_ret (results_cell_row Tryd.results6 _ _ w.heap.size 26 #[.int .i64 0, .slice a3 (plainL ss).length c3] (0, 0) _ rfl (set2 hr3 _ _) Tryd.underlying26 rfl (by rw [hj2]; simp [hy21])) rfl ⟨⟨_, by rw [HPF.out], ?_⟩, below2 HB3.out (Nat.le_refl _) _ _⟩
    rw [HPR.out]
    exact (sown_set2 HV3.out (by omega) _ _).mono (by omega)
  · have b1 : (pFault ss != 0) = true := bne_iff_ne.2 hf
    have HPR : Hid (plainR ss = []) := hid (by unfold plainR; rw [if_neg hf])
    have z0 : w1.cell? ⟨w.heap.size, 0, none⟩ = some (.int .i64 0) := bcell hr1 0
    have z1 : w1.cell? ⟨w.heap.size, 1, none⟩ = some (.slice none 0 0) := bcell hr1 1
    have f0 := bfree hr1 0
    have f1 := bfree hr1 1
    have zl : w.heap.size < w1.heap.size := by omega
    clear HC hf hb1
    generalize hpf : pFault ss = pf at *
    have HPE := hid hpf
    clear hpf
    go_wp2
    refine bodyPost_ret (results_cell_row Tryd.results6 _ _ w.heap.size 26 #[.int .i64 pf, .slice none 0 0] (0, 0) _ rfl (set2 hr1 _ _) Tryd.underlying26 rfl (by rw [hj2]; simp [hy21])) rfl ⟨⟨_, by rw [HPE.out], ?_⟩, below2 HB1.out (Nat.le_refl _) _ _⟩
    rw [HPR.out]
    exact SOwn.nil _ _
end Bk
end Go.Proofs.YtedgobdnjemegaaDoor
