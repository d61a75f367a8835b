/- Laid together: GoJ, GoK, GoM. -/
import Derived.Test.YtfgckeoigkoflaaGreatDoorJGraphOf16
import Derived.Test.YtfgckeoigkoflaaGreatDoorJGraphOf28
/- Every step, as the specification draws it; the whole graph. -/
namespace Go.Proofs.YtfgckeoigkoflaaGreatDoor
open Go.RowKit
set_option linter.unusedVariables false
namespace Gr
open Ex (hid nvals inR owns_keep)
open Nd (NodeD)
open Gn (GNodeD)
open Fl (FlowD)
open St (StepD)
open Nst (own flat)
open Pf (PJ PJ_eq kidsL pFault specKids of_p first_all of_one manyOk linkC formOk)
open Pt (kidVals)
open Rc
def KP (ss : List StepD) (f : Nat) (g : GraphD) (k : Nat) (P : Nat) (S : Nat → Prop) (w : World) (d : Drawn) : Ending → World → Prop := fun e w' => e = .returned (.tuple #[.int .i64 (d.2.1 : Int), .int .i64 (d.2.2 : Int)]) ∧ ∃ S', GB w' P S' d.1 ∧ Fr w w' P S S'
set_option maxRecDepth 100000 in
set_option maxHeartbeats 4000000 in
theorem callMany (P B0 f : Nat) (S : Nat → Prop) (g : GraphD) (ss : List StepD) (k : Nat) (v : Value) (wp w : World) (HSG : SG ss v wp f) (h : GB w P S g) (hs : St.At wp B0 v ss) (hwp : wp.heap.size ≤ P) (hb : Below wp.heap.size wp w) (hpf : pFault ss = 0) (hk : k < ss.length) (hl : ss.length ≤ 24) (hd : 8 ≤ f + 1 + deepG ss k)
    (hcl : ∀ j (hj : j < ss.length), ss[j].cond.length ≤ 100000) (hn : g.nodes.length + NB (f + 1) ≤ 1000000000000) (hfb : g.flows.length + FB (f + 1) ≤ 1000000000000) (hL : 0 < (kidsL ss k).length) (hkd : ss[k].kind = 3) :
    Calls Tryz.prog 33 #[.pointer (some ⟨P, 0, none⟩), v, .int .i64 (k : Int)] w (KP ss f g k P S w (manyG (stepG ss f) ss g k 7 8)) := by
  have HM := hid (specMany P B0 f S g ss k 7 8 v wp w HSG h hs hwp hb hpf hk hl hd hcl hn hfb hL)
  unfold KP
  generalize manyG (stepG ss f) ss g k 7 8 = d at *
  obtain ⟨aq, cq, rfl⟩ := hs.slice
  obtain ⟨g1, o1, vc1, ve1, rfl, hg1, p0, p1, p2, p3, p4, p5, hc1, he1⟩ := hs.at hk
  have q1 : (k : Int) < (ss.length : Int) := by omega
  have b0 := old_cell hb hg1 p0
  have zg := Nat.lt_of_lt_of_le hg1 hb.size
  rw [hkd] at b0
  clear h hs hb HSG hcl hn hfb hd p0 p1 p2 p3 p4 p5 hc1 he1 hkd
  go_enter Tryz.func33, Tryz.ntmps33
  go_wp2_with fail
  refine HM.out.mono ?_
  rintro e w1 ⟨rfl, S1, hG1, hF1⟩
  have HG1 := hid hG1
  have HF1 := hid hF1
  clear hG1 hF1 HM b0
  go_wp2
  go_ret2
  exact ⟨rfl, S1, HG1.out, HF1.out⟩
set_option maxRecDepth 100000 in
set_option maxHeartbeats 4000000 in
theorem callMany4 (P B0 f : Nat) (S : Nat → Prop) (g : GraphD) (ss : List StepD) (k : Nat) (v : Value) (wp w : World) (HSG : SG ss v wp f) (h : GB w P S g) (hs : St.At wp B0 v ss) (hwp : wp.heap.size ≤ P) (hb : Below wp.heap.size wp w) (hpf : pFault ss = 0) (hk : k < ss.length) (hl : ss.length ≤ 24) (hd : 8 ≤ f + 1 + deepG ss k)
    (hcl : ∀ j (hj : j < ss.length), ss[j].cond.length ≤ 100000) (hn : g.nodes.length + NB (f + 1) ≤ 1000000000000) (hfb : g.flows.length + FB (f + 1) ≤ 1000000000000) (hL : 0 < (kidsL ss k).length) (hkd : ss[k].kind = 4) :
    Calls Tryz.prog 33 #[.pointer (some ⟨P, 0, none⟩), v, .int .i64 (k : Int)] w (KP ss f g k P S w (manyG (stepG ss f) ss g k 9 10)) := by
  have HM := hid (specMany P B0 f S g ss k 9 10 v wp w HSG h hs hwp hb hpf hk hl hd hcl hn hfb hL)
  unfold KP
  generalize manyG (stepG ss f) ss g k 9 10 = d at *
  obtain ⟨aq, cq, rfl⟩ := hs.slice
  obtain ⟨g1, o1, vc1, ve1, rfl, hg1, p0, p1, p2, p3, p4, p5, hc1, he1⟩ := hs.at hk
  have q1 : (k : Int) < (ss.length : Int) := by omega
  have b0 := old_cell hb hg1 p0
  have zg := Nat.lt_of_lt_of_le hg1 hb.size
  rw [hkd] at b0
  clear h hs hb HSG hcl hn hfb hd p0 p1 p2 p3 p4 p5 hc1 he1 hkd
  go_enter Tryz.func33, Tryz.ntmps33
  go_wp2_with fail
  refine HM.out.mono ?_
  rintro e w1 ⟨rfl, S1, hG1, hF1⟩
  have HG1 := hid hG1
  have HF1 := hid hF1
  clear hG1 hF1 HM b0
  go_wp2
  go_ret2
  exact ⟨rfl, S1, HG1.out, HF1.out⟩
set_option maxRecDepth 100000 in
set_option maxHeartbeats 4000000 in
theorem callGuard (P B0 f : Nat) (S : Nat → Prop) (g : GraphD) (ss : List StepD) (k k0 k1 : Nat) (v : Value) (wp w : World) (HSG : SG ss v wp f) (h : GB w P S g) (hs : St.At wp B0 v ss) (hwp : wp.heap.size ≤ P) (hb : Below wp.heap.size wp w) (hpf : pFault ss = 0) (hk : k < ss.length) (hl : ss.length ≤ 24) (hd : 8 ≤ f + 1 + deepG ss k)
    (hn : g.nodes.length + NB (f + 1) ≤ 1000000000000) (hfb : g.flows.length + FB (f + 1) ≤ 1000000000000) (hks : kidsL ss k = [k0, k1]) (hkd : ss[k].kind = 8) :
    Calls Tryz.prog 33 #[.pointer (some ⟨P, 0, none⟩), v, .int .i64 (k : Int)] w (KP ss f g k P S w (guardG (stepG ss f) ss g k)) := by
  have HM := hid (specGuard P B0 f S g ss k k0 k1 v wp w HSG h hs hwp hb hpf hk hl hd hn hfb hks)
  unfold KP
  generalize guardG (stepG ss f) ss g k = d at *
  obtain ⟨aq, cq, rfl⟩ := hs.slice
  obtain ⟨g1, o1, vc1, ve1, rfl, hg1, p0, p1, p2, p3, p4, p5, hc1, he1⟩ := hs.at hk
  have q1 : (k : Int) < (ss.length : Int) := by omega
  have b0 := old_cell hb hg1 p0
  have zg := Nat.lt_of_lt_of_le hg1 hb.size
  rw [hkd] at b0
  clear h hs hb HSG hn hfb hd p0 p1 p2 p3 p4 p5 hc1 he1 hkd
  go_enter Tryz.func33, Tryz.ntmps33
  go_wp2_with fail
  refine HM.out.mono ?_
  rintro e w1 ⟨rfl, S1, hG1, hF1⟩
  have HG1 := hid hG1
  have HF1 := hid hF1
  clear hG1 hF1 HM b0
  go_wp2
  go_ret2
  exact ⟨rfl, S1, HG1.out, HF1.out⟩
theorem kindOf {ss : List StepD} {k : Nat} (hpf : pFault ss = 0) (hk : k < ss.length) : (1 ≤ ss[k].kind ∧ ss[k].kind ≤ 8) ∧ manyOk ss[k].kind (kidsL ss k).length = true := by
  obtain ⟨_, h1, h2, _⟩ := of_p hpf
  have e := (of_one (first_all h1 hk)).1
  have l := first_all h2 hk
  rw [PJ_eq hk] at e
  refine ⟨Ex.inR_iff.1 (Bool.and_eq_true _ _ ▸ e).1, ?_⟩
  cases hm : manyOk ss[k].kind (kidsL ss k).length
  · rw [← PJ_eq hk] at hm
    rw [Pf.link_many hm] at l
    cases l
  · rfl
theorem two_list {l : List Nat} (h : l.length = 2) : ∃ a b, l = [a, b] := by
  match l, h with
  | [a, b], _ => exact ⟨a, b, rfl⟩
theorem SG_all (B0 : Nat) (ss : List StepD) (v : Value) (wp : World) (hs : St.At wp B0 v ss) (hpf : pFault ss = 0) (hl : ss.length ≤ 24) (hcl : ∀ j (hj : j < ss.length), ss[j].cond.length ≤ 100000) (hel : ∀ j (hj : j < ss.length), ss[j].expr.length ≤ 100000) : ∀ f, SG ss v wp f
  | 0 => fun P S g k w _ _ _ hk hd _ _ => by
    have := deep_le hpf hk
    omega
  | f + 1 => fun P S g k w hwp hb hG hk hd hn hfb => by
    have ih := SG_all B0 ss v wp hs hpf hl hcl hel f
    obtain ⟨h1, h2⟩ := kindOf hpf hk
    have hpj := PJ_eq hk
    have hkk : ss[k].kind = 1 ∨ ss[k].kind = 2 ∨ ss[k].kind = 3 ∨ ss[k].kind = 4 ∨ ss[k].kind = 5 ∨ ss[k].kind = 6 ∨ ss[k].kind = 7 ∨ ss[k].kind = 8 := by omega
    have lone : ss[k].kind = 2 ∨ ss[k].kind = 5 ∨ ss[k].kind = 6 ∨ ss[k].kind = 7 → Calls Tryz.prog 33 #[.pointer (some ⟨P, 0, none⟩), v, .int .i64 (k : Int)] w fun e w' => e = .returned (.tuple #[.int .i64 ((stepG ss (f + 1) g k).2.1 : Int), .int .i64 ((stepG ss (f + 1) g k).2.2 : Int)]) ∧ ∃ S', GB w' P S' (stepG ss (f + 1) g k).1 ∧ Fr w w' P S S' := fun hq => by
      have e : stepG ss (f + 1) g k = loneG ss g k := by unfold stepG; rw [hpj, if_neg (by omega), if_neg (by omega), if_neg (by omega), if_neg (by omega)]
      rw [e]
      exact specLone P B0 S g ss k v wp w hG hs hwp hb hk hl (hel k hk) (by omega) hq
    rcases hkk with e | e | e | e | e | e | e | e
    · have e2 : stepG ss (f + 1) g k = seqG (stepG ss f) ss g k := by rw [stepG, hpj, if_neg (by omega), if_neg (by omega), if_neg (by omega), if_pos e]
      rw [e2]
      rw [e] at h2
      have h3 : 1 ≤ (kidsL ss k).length := by simpa [manyOk] using h2
      exact specSeq P B0 f S g ss k v wp w ih hG hs hwp hb hpf hk hl (by omega) hn hfb h3 e
    · exact lone (.inl e)
    · have e2 : stepG ss (f + 1) g k = manyG (stepG ss f) ss g k 7 8 := by rw [stepG, hpj, if_pos e]
      rw [e2]
      rw [e] at h2
      have h3 : 2 ≤ (kidsL ss k).length := by simpa [manyOk] using h2
      exact callMany P B0 f S g ss k v wp w ih hG hs hwp hb hpf hk hl (by omega) hcl hn hfb (by omega) e
    · have e2 : stepG ss (f + 1) g k = manyG (stepG ss f) ss g k 9 10 := by rw [stepG, hpj, if_neg (by omega), if_pos e]
      rw [e2]
      rw [e] at h2
      have h3 : 2 ≤ (kidsL ss k).length := by simpa [manyOk] using h2
      exact callMany4 P B0 f S g ss k v wp w ih hG hs hwp hb hpf hk hl (by omega) hcl hn hfb (by omega) e
    · exact lone (.inr (.inl e))
    · exact lone (.inr (.inr (.inl e)))
    · exact lone (.inr (.inr (.inr e)))
    · have e2 : stepG ss (f + 1) g k = guardG (stepG ss f) ss g k := by rw [stepG, hpj, if_neg (by omega), if_neg (by omega), if_pos e]
      rw [e2]
      rw [e] at h2
      obtain ⟨k0, k1, hks⟩ := two_list (l := kidsL ss k) (by simpa [manyOk] using h2)
      exact callGuard P B0 f S g ss k k0 k1 v wp w ih hG hs hwp hb hpf hk hl (by omega) hn hfb hks e
end Gr
end Go.Proofs.YtfgckeoigkoflaaGreatDoor
/- The whole graph, as the specification draws it. -/
namespace Go.Proofs.YtfgckeoigkoflaaGreatDoor
open Go.RowKit
set_option linter.unusedVariables false
namespace Gr
open Ex (hid nvals inR owns_keep)
open Nd (NodeD)
open Gn (GNodeD)
open Fl (FlowD)
open St (StepD)
open Nst (own flat)
open Pf (PJ PJ_eq kidsL pFault)
open Rc
def drawnG (ss : List StepD) : Drawn := stepG ss 8 (addN ⟨[], []⟩ (bareN 1 0)) 0
/-- The graph of a process. -/
def graphL (ss : List StepD) : GraphD := addF (addF (addN (drawnG ss).1 (bareN 2 0)) ⟨0, ((drawnG ss).2.1 : Int), []⟩) ⟨((drawnG ss).2.2 : Int), ((drawnG ss).1.nodes.length : Int), []⟩
theorem gb_nil {w : World} {P : Nat} (h : w.heap[P]? = some (.cells #[.slice none 0 0, .slice none 0 0] 27 (0, 0))) : GB w P (fun _ => False) ⟨[], []⟩ :=
  ⟨.slice none 0 0, .slice none 0 0, fun _ => .slice none 0 0, fun _ => .slice none 0 0, h, (fun b hb => by
    rcases hb with e | ⟨j, hj, e⟩ | e | ⟨j, hj, e⟩
    · cases e
    · cases e
    · cases e
    · cases e), Nst.At.nil _ _ _ _ _ _, Nst.At.nil _ _ _ _ _ _, (fun b e => by cases e), fun b e => e.elim⟩
theorem GB.parts {w : World} {P : Nat} {S : Nat → Prop} {g : GraphD} (h : GB w P S g) : ∃ vn vf, w.heap[P]? = some (.cells #[vn, vf] 27 (0, 0)) ∧ Gn.At w (P + 1) vn g.nodes ∧ Fl.At w (P + 1) vf g.flows := by
  obtain ⟨vn, vf, E, F, h1, h2, h3, h4, _, _⟩ := h
  exact ⟨vn, vf, h1, GnOAt.at h3, FlOAt.at h4⟩
set_option maxRecDepth 100000 in
set_option maxHeartbeats 16000000 in
theorem specL6Graph (B0 : Nat) (ss : List StepD) (v : Value) (w : World) (hs : St.At w B0 v ss) (hpf : pFault ss = 0) (hl : ss.length ≤ 24) (h0 : 0 < ss.length) (hcl : ∀ j (hj : j < ss.length), ss[j].cond.length ≤ 100000) (hel : ∀ j (hj : j < ss.length), ss[j].expr.length ≤ 100000) :
    Calls Tryz.prog 15 #[v] w fun e w' => (∃ vn vf, e = .returned (.agg #[vn, vf]) ∧ Gn.At w' (w.heap.size + 2) vn (graphL ss).nodes ∧ Fl.At w' (w.heap.size + 2) vf (graphL ss).flows) ∧ Below w.heap.size w w' := by
  have HSA := hid (SG_all B0 ss v w hs hpf hl hcl hel 8)
  have hx : Below w.heap.size w ((w.alloc (.cells #[.slice none 0 0, .slice none 0 0] 27)).alloc (.cells #[.slice none 0 0, .slice none 0 0] 27)) := ((Below.refl _ w).alloc (Nat.le_refl _) _).alloc (by simp) _
  have HX := hid hx
  have hP0 : ((w.alloc (.cells #[.slice none 0 0, .slice none 0 0] 27)).alloc (.cells #[.slice none 0 0, .slice none 0 0] 27)).heap[w.heap.size + 1]? = some (.cells #[.slice none 0 0, .slice none 0 0] 27 (0, 0)) := by
    have := heap_alloc_new (w.alloc (.cells #[.slice none 0 0, .slice none 0 0] 27)) (.cells #[.slice none 0 0, .slice none 0 0] 27)
    rw [World.size_alloc] at this
    exact this
  have hR0 : ((w.alloc (.cells #[.slice none 0 0, .slice none 0 0] 27)).alloc (.cells #[.slice none 0 0, .slice none 0 0] 27)).heap[w.heap.size]? = some (.cells #[.slice none 0 0, .slice none 0 0] 27 (0, 0)) := by
    rw [Below.heap_alloc _ _ _ (by simp)]
    exact heap_alloc_new w _
  have HG0 := hid (gb_nil hP0)
  have HR0 := hid hR0
  have hz : ((w.alloc (.cells #[.slice none 0 0, .slice none 0 0] 27)).alloc (.cells #[.slice none 0 0, .slice none 0 0] 27)).heap.size = w.heap.size + 2 := by simp
  obtain ⟨aq, cq, rfl⟩ := hs.slice
  obtain ⟨gA, hgA⟩ : ∃ x, x = addN ⟨[], []⟩ (bareN 1 0) := ⟨_, rfl⟩
  obtain ⟨q, hq⟩ : ∃ q, q = drawnG ss := ⟨_, rfl⟩
  have hf := step_few hl 8 gA 0
  have hq2 : q = stepG ss 8 gA 0 := by rw [hq, hgA]; rfl
  rw [← hq2] at hf
  have e1 := hf.n
  have e2 := hf.f
  have e3 := NB8
  have e4 := FB8
  have lA : gA.nodes.length = 1 ∧ gA.flows.length = 0 := by rw [hgA]; exact ⟨rfl, rfl⟩
  have BB : Hid (gA.nodes.length + NB 8 ≤ 1000000000000 ∧ gA.flows.length + FB 8 ≤ 1000000000000 ∧ q.1.nodes.length ≤ 1000000000000 ∧ q.1.flows.length + 1 ≤ 1000000000000) := hid (by omega)
  have HgA := hid hgA
  have HQ2 := hid hq2
  have HGL : Hid (graphL ss = addF (addF (addN q.1 (bareN 2 0)) ⟨0, (q.2.1 : Int), []⟩) ⟨(q.2.2 : Int), (q.1.nodes.length : Int), []⟩) := hid (by rw [hq]; rfl)
  have hdp : Hid (8 ≤ 8 + deepG ss 0) := hid (by omega)
  have HZ := hid hz
  clear hs hx hP0 hR0 hgA hq hq2 hf e1 e2 e3 e4 lA hcl hel
  go_enter Tryz.func15, Tryz.ntmps15
  go_wp2_with fail
  generalize (w.alloc (.cells #[.slice none 0 0, .slice none 0 0] 27)).alloc (.cells #[.slice none 0 0, .slice none 0 0] 27) = w0 at *
  clear hz
  have hPw : w.heap.size ≤ w.heap.size + 1 := Nat.le_succ _
  refine (specNode (w.heap.size + 1) (fun _ => False) ⟨[], []⟩ ⟨1, 0, ⟨#[]⟩, 0, []⟩ (.slice none 0 0) w0 w0 HG0.out (Below.refl _ _) (nil_own _ _) (Nat.zero_le _)).mono ?_
  rintro e w1 ⟨rfl, S1, hG1, hF1⟩
  have HSB1 := hid (hF1.steps HG0.out HX.out hPw)
  have HF1 := hid hF1
  have HG1 : Hid (GB w1 (w.heap.size + 1) S1 gA) := hid (by rw [HgA.out]; exact hG1)
  have HS1 := hid (HSA.out (w.heap.size + 1) S1 gA 0 w1 hPw HSB1.out HG1.out h0 hdp.out BB.out.1 BB.out.2.1)
  rw [← HQ2.out] at HS1
  clear hG1 hF1
  go_wp2_with fail
  refine HS1.out.mono ?_
  rintro e w2 ⟨rfl, S2, hG2, hF2⟩
  have HSB2 := hid (hF2.steps HG1.out HSB1.out hPw)
  have HF2 := hid (HF1.out.trans hF2)
  have HG2 := hid hG2
  clear hG2 hF2 HS1 HG1 HF1 HSB1
  go_wp2_with fail
  refine (specNode (w.heap.size + 1) S2 q.1 ⟨2, 0, ⟨#[]⟩, 0, []⟩ (.slice none 0 0) w2 w2 HG2.out (Below.refl _ _) (nil_own _ _) BB.out.2.2.1).mono ?_
  rintro e w3 ⟨rfl, S3, hG3, hF3⟩
  have HSB3 := hid (hF3.steps HG2.out HSB2.out hPw)
  have HF3 := hid (HF2.out.trans hF3)
  have HG3 : Hid (GB w3 (w.heap.size + 1) S3 (addN q.1 (bareN 2 0))) := hid hG3
  clear hG3 hF3 HG2 HF2 HSB2
  go_wp2_with fail
  refine (specLink (w.heap.size + 1) 0 S3 (addN q.1 (bareN 2 0)) ⟨0, (q.2.1 : Int), []⟩ (.slice none 0 0) w3 HG3.out (nil_at _) (Nat.zero_le _) (by rw [addN_f]; have := BB.out.2.2.2; omega)).mono ?_
  rintro e w4 ⟨⟨r4, rfl⟩, S4, hG4, hF4⟩
  have HSB4 := hid (hF4.steps HG3.out HSB3.out hPw)
  have HF4 := hid (HF3.out.trans hF4)
  have HG4 : Hid (GB w4 (w.heap.size + 1) S4 (addF (addN q.1 (bareN 2 0)) ⟨0, (q.2.1 : Int), []⟩)) := hid hG4
  clear hG4 hF4 HG3 HF3 HSB3
  go_wp2_with fail
  refine (specLink (w.heap.size + 1) 0 S4 (addF (addN q.1 (bareN 2 0)) ⟨0, (q.2.1 : Int), []⟩) ⟨(q.2.2 : Int), (q.1.nodes.length : Int), []⟩ (.slice none 0 0) w4 HG4.out (nil_at _) (Nat.zero_le _) (by rw [addF_f, addN_f]; exact BB.out.2.2.2)).mono ?_
  rintro e w5 ⟨⟨r5, rfl⟩, S5, hG5, hF5⟩
  have HB5 := hid (hF5.steps HG4.out HSB4.out hPw)
  have HF5 := hid (HF4.out.trans hF5)
  have HG5 : Hid (GB w5 (w.heap.size + 1) S5 (graphL ss)) := hid (by rw [HGL.out]; exact hG5)
  clear hG5 hF5 HG4 HF4 HSB4
  obtain ⟨vn, vf, hP5, hn5, hf5⟩ := HG5.out.parts
  have hR5 := (HF5.out.blk w.heap.size (by have := HZ.out; omega) (by omega) (fun e => e)).trans HR0.out
  have z5 : w.heap.size + 1 < w5.heap.size := HG5.out.lt
  have z6 : w.heap.size < w5.heap.size := by omega
  obtain ⟨a1, c1, rfl⟩ := hn5.slice
  obtain ⟨a2, c2, rfl⟩ := hf5.slice
  have k0 : w5.cell? ⟨w.heap.size + 1, 0, none⟩ = some (.slice a1 (graphL ss).nodes.length c1) := by simp [World.cell?, hP5]
  have k1 : w5.cell? ⟨w.heap.size + 1, 1, none⟩ = some (.slice a2 (graphL ss).flows.length c2) := by simp [World.cell?, hP5]
  have r0 : w5.cell? ⟨w.heap.size, 0, none⟩ = some (.slice none 0 0) := by simp [World.cell?, hR5]
  have r1 : w5.cell? ⟨w.heap.size, 1, none⟩ = some (.slice none 0 0) := by simp [World.cell?, hR5]
  have f0 : w5.frozen? ⟨w.heap.size, 0, none⟩ = false := by simp [World.frozen?, hR5]
  have f1 : w5.frozen? ⟨w.heap.size, 1, none⟩ = false := by simp [World.frozen?, hR5]
  have HN5 := hid hn5
  have HL5 := hid hf5
  clear hP5 hR5 hn5 hf5 HG5 HF5
  go_wp2
  refine bodyPost_ret (v := .agg #[.slice a1 (graphL ss).nodes.length c1, .slice a2 (graphL ss).flows.length c2]) (by simp [results, Tryz.results15, go_sem, r0, r1]) rfl ⟨⟨_, _, rfl, ?_, ?_⟩, setB (setB HB5.out (Nat.le_refl _) _) (Nat.le_refl _) _⟩
  · exact (HN5.out.setBelow (by omega) _).setBelow (by omega) _
  · exact (HL5.out.setBelow (by omega) _).setBelow (by omega) _
end Gr
end Go.Proofs.YtfgckeoigkoflaaGreatDoor
/- How long what a step of a process without a fault has can be. -/
namespace Go.Proofs.YtfgckeoigkoflaaGreatDoor
set_option linter.unusedVariables false
namespace Gr
open Ex (inR eFault)
open St (StepD)
open Tr (nf)
open Pf (PJ PJ_eq pFault of_p of_one first_all formOk partC linkC)
theorem nf8 {l : List UInt8} (h : nf l = 0) : l.length ≤ 8 := by
  unfold nf at h
  split at h
  · cases h
  split at h
  · cases h
  split at h
  · cases h
  omega
theorem few {ss : List StepD} (h : pFault ss = 0) {i : Nat} (hi : i < ss.length) : ss[i].name.size ≤ 8 ∧ ss[i].cond.length ≤ 16 ∧ ss[i].expr.length ≤ 16 := by
  obtain ⟨_, h1, h2, h3⟩ := of_p h
  have e := of_one (first_all h1 hi)
  have e2 := first_all h2 hi
  rw [PJ_eq hi] at e
  obtain ⟨f, _, _, _, p⟩ := e
  unfold formOk at f
  have fb : Pf.bare ss[i] = true := (Bool.and_eq_true _ _ ▸ f).2
  unfold partC at p
  unfold Pf.bare at fb
  rw [Bool.and_eq_true, Bool.and_eq_true] at fb
  obtain ⟨⟨b1, b2⟩, b3⟩ := fb
  refine ⟨?_, ?_, ?_⟩
  · by_cases hk : ss[i].kind = 2
    · by_cases hn : nf ss[i].name.data.toList = 0
      · exact nf8 hn
      · rw [if_pos ⟨hk, hn⟩] at p; exact absurd p hn
    · have hz : ss[i].name.toList.isEmpty = true := by
        rcases Bool.or_eq_true_iff.1 b1 with q | q
        · exact absurd (by simpa using q) hk
        · exact q
      rw [ByteArray.toList_eq, List.isEmpty_iff] at hz
      have : ss[i].name.data.toList.length = 0 := by rw [hz]; rfl
      have e3 : ss[i].name.data.toList.length = ss[i].name.size := rfl
      omega
  · by_cases hc : 0 < ss[i].cond.length
    · unfold linkC at e2
      rw [PJ_eq hi] at e2
      split at e2
      · cases e2
      split at e2
      · cases e2
      try rw [if_pos hc] at e2
      exact (Ex.of_e e2).2.1
    · omega
  · by_cases hk : ss[i].kind = 7
    · rw [if_neg (by omega)] at p
      split at p
      · cases p
      try rw [if_pos hk] at p
      exact (Ex.of_e p).2.1
    · rcases Bool.or_eq_true_iff.1 b3 with q | q
      · exact absurd (by simpa using q) hk
      · have : ss[i].expr.length = 0 := by simpa using q
        omega
end Gr
end Go.Proofs.YtfgckeoigkoflaaGreatDoor
