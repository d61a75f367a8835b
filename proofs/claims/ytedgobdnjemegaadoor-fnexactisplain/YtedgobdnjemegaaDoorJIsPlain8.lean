/- Laid together: StC, PlM. -/
import Derived.Test.YtedgobdnjemegaaDoorJIsPlain1
import Derived.Test.YtedgobdnjemegaaDoorJIsPlain15
/- The law's comparisons of steps; an argument that is a list of steps, as it lies in memory. -/
namespace Go.Proofs.YtedgobdnjemegaaDoor
open Go.RowKit Go.Deep
set_option linter.unusedVariables false
namespace St
open Ex (hid)
open Nd (NodeD cellsI64 lt_of_cell)
theorem str_ne (s : ByteArray) : (s.toList != s.toList) = false := by simp
set_option maxRecDepth 100000 in
set_option maxHeartbeats 1000000 in
theorem eqOne (B1 B2 : Nat) (x : StepD) (c1 e1 c2 e2 : Value) (w : World) (hl : Small1 1048576 x) (h1 : Nd.At w B1 c1 x.cond) (h2 : Nd.At w B1 e1 x.expr) (h3 : Nd.At w B2 c2 x.cond) (h4 : Nd.At w B2 e2 x.expr) :
    Calls Tryd.prog 23 #[.agg #[.int .i64 x.kind, .int .i64 x.parent, .string x.name, .int .i64 x.arg, c1, e1], .agg #[.int .i64 x.kind, .int .i64 x.parent, .string x.name, .int .i64 x.arg, c2, e2]] w fun e w' => e = .returned (.bool true) ∧ Below w.heap.size w w' := by
  obtain ⟨a1, k1, rfl⟩ := h1.slice
  obtain ⟨a2, k2, rfl⟩ := h2.slice
  obtain ⟨a3, k3, rfl⟩ := h3.slice
  obtain ⟨a4, k4, rfl⟩ := h4.slice
  have hs1 := hl.2.1
  have hs2 := hl.2.2
  have hB : Below w.heap.size w ((w.alloc (.cells #[.int .i64 x.kind, .int .i64 x.parent, .string x.name, .int .i64 x.arg, .slice a1 x.cond.length k1, .slice a2 x.expr.length k2] 43)).alloc (.cells #[.int .i64 x.kind, .int .i64 x.parent, .string x.name, .int .i64 x.arg, .slice a3 x.cond.length k3, .slice a4 x.expr.length k4] 43)) := ((Below.refl _ w).alloc (Nat.le_refl _) _).alloc (by simp) _
  have H1 := hid (h1.below hB)
  have H2 := hid (h2.below hB)
  have H3 := hid (h3.below hB)
  have H4 := hid (h4.below hB)
  have HB := hid hB
  clear h1 h2 h3 h4 hB hl
  have g0 := str_ne x.name
  have g1 : (x.kind != x.kind) = false := by simp
  have g2 : (x.parent != x.parent) = false := by simp
  have g3 : (x.arg != x.arg) = false := by simp
  go_enter Tryd.func23, Tryd.ntmps23
  go_wp2_with fail
  refine (Nd.eqS B1 B2 x.cond _ _ _ (by omega) H1.out H3.out).mono ?_
  rintro e w1 ⟨rfl, hb1⟩
  have r1 := hb1.size
  simp only [World.size_alloc] at r1
  have d1 := (hb1.cell (p := ⟨w.heap.size, 5, none⟩) (by simp; omega)).trans (show _ = some (.slice a2 x.expr.length k2) by go_simp)
  have d2 := (hb1.cell (p := ⟨w.heap.size + 1, 5, none⟩) (by simp)).trans (show _ = some (.slice a4 x.expr.length k4) by go_simp)
  have l1 : w.heap.size < w1.heap.size := by omega
  have l2 : w.heap.size + 1 < w1.heap.size := by omega
  have HB1 := hid (HB.out.trans (hb1.mono HB.out.size))
  go_wp2_with fail
  refine (Nd.eqS B1 B2 x.expr _ _ _ (by omega) (H2.out.below hb1) (H4.out.below hb1)).mono ?_
  rintro e w2 ⟨rfl, hb2⟩
  have HB2 := hid (HB1.out.trans (hb2.mono HB1.out.size))
  go_wp2
  go_ret
  exact ⟨rfl, HB2.out⟩
set_option maxRecDepth 100000 in
set_option maxHeartbeats 2000000 in
theorem eqS (B1 B2 : Nat) (ss : List StepD) (v1 v2 : Value) (w : World) (hl : Small 1048576 ss) (h1 : At w B1 v1 ss) (h2 : At w B2 v2 ss) :
    Calls Tryd.prog 10 #[v1, v2] w fun e w' => e = .returned (.bool true) ∧ Below w.heap.size w w' := by
  obtain ⟨a1, c1, rfl⟩ := h1.slice
  obtain ⟨a2, c2, rfl⟩ := h2.slice
  have H1 := hid h1
  have H2 := hid h2
  have HL := hid hl
  have hlen := hl.1
  clear h1 h2 hl
  have hb : ((ss.length : Int) != (ss.length : Int)) = false := by simp
  go_enter Tryd.func10, Tryd.ntmps10
  go_wp2
  go_loopw [5] (fun i wr => ∃ k : Nat, i = .int .i64 k ∧ k ≤ ss.length ∧ Below w.heap.size w wr) (fun i _ => ss.length - (intOf i).toNat)
  case atStart => exact ⟨0, rfl, Nat.zero_le _, Below.refl _ _⟩
  case round =>
    obtain ⟨k, rfl, hk, hbel⟩ := hrel
    by_cases hlt : k < ss.length
    · obtain ⟨g1, o1, c1', e1', rfl, hg1, p0, p1, p2, p3, p4, p5, hc1, he1⟩ := (H1.out.below hbel).at hlt
      obtain ⟨g2, o2, c2', e2', rfl, hg2, u0, u1, u2, u3, u4, u5, hc2, he2⟩ := (H2.out.below hbel).at hlt
      have hsm := HL.out.at hlt
      have HE : Hid (∀ w1 : World, Below wr.heap.size wr w1 → Calls Tryd.prog 23 #[.agg #[.int .i64 ss[k].kind, .int .i64 ss[k].parent, .string ss[k].name, .int .i64 ss[k].arg, c1', e1'], .agg #[.int .i64 ss[k].kind, .int .i64 ss[k].parent, .string ss[k].name, .int .i64 ss[k].arg, c2', e2']] w1 fun e w' => e = .returned (.bool true) ∧ Below w1.heap.size w1 w') := fun w1 h => eqOne B1 B2 ss[k] c1' e1' c2' e2' w1 hsm (hc1.below h) (he1.below h) (hc2.below h) (he2.below h)
      obtain ⟨a3, c3, rfl⟩ := hc1.slice
      obtain ⟨a4, c4, rfl⟩ := he1.slice
      obtain ⟨a5, c5, rfl⟩ := hc2.slice
      obtain ⟨a6, c6, rfl⟩ := he2.slice
      clear hc1 he1 hc2 he2 hsm
      have t1 : (k : Int) < (ss.length : Int) := by omega
      go_wp2
      go_region_with ((go_at_call 23; refine (HE.out _ ?_).mono ?_; exact (Below.refl wr.heap.size wr).drew; rintro e w1 ⟨rfl, hb1⟩; have hbb : Below wr.heap.size wr w1 := ((Below.refl wr.heap.size wr).drew).trans hb1))
      all_goals go_wp2
      all_goals exact ⟨⟨k + 1, by simp, by omega, hbel.trans (hbb.mono hbel.size)⟩, by simp [intOf]; omega⟩
    · go_wp2
      go_ret
      exact ⟨rfl, hbel⟩
theorem cellsStep : Tryd.prog.cellsOf 38 = 6 := by kernel_rfl
theorem cellsStr : Tryd.prog.cellsOf 9 = 1 := by kernel_rfl
theorem cellsNs : Tryd.prog.cellsOf 36 = 1 := by kernel_rfl
section
variable {H : Type} {enc : TypeId × Value → H} {w : World} {base : Nat} {spare : Nat → Bool} {held : Bool} {fuel : Nat}
set_option maxRecDepth 100000 in
theorem open_one {cs : List Value} {x : DataW H × List MemPlace} (h : DataW.trod enc Tryd.prog w base spare held fuel 38 cs = some x) :
    ∃ (s : StepD) (vc ve : Value), cs = [.int .i64 s.kind, .int .i64 s.parent, .string s.name, .int .i64 s.arg, vc, ve] ∧ Nd.At w 0 vc s.cond ∧ Nd.At w 0 ve s.expr ∧ s.name.size ≤ maxLen ∧ s.cond.length ≤ maxLen ∧ s.expr.length ≤ maxLen := by
  obtain ⟨xs, n, rfl, _, hlen, hxl, hf⟩ := DataW.trod_struct Tryd.underlying38 h
  have h0 := hf 0 _ rfl
  have h1 := hf 1 _ rfl
  have h2 := hf 2 _ rfl
  have h3 := hf 3 _ rfl
  have h4 := hf 4 _ rfl
  have h5 := hf 5 _ rfl
  rw [cellsStep] at hlen
  match cs, hlen with
  | [a, b, c, d, e, f], _ =>
    match xs, hxl with
    | [x0, x1, x2, x3, x4, x5], _ =>
      simp [cellsStr, cellsI64, cellsNs] at h0 h1 h2 h3 h4 h5
      obtain ⟨n0, e0, _, _⟩ := DataW.trod_int Tryd.underlying2 h0
      obtain ⟨n1, e1, _, _⟩ := DataW.trod_int Tryd.underlying2 h1
      obtain ⟨s2, e2, _, b2⟩ := DataW.trod_string Tryd.underlying9 h2
      obtain ⟨n3, e3, _, _⟩ := DataW.trod_int Tryd.underlying2 h3
      obtain ⟨cs4, ha4, hl4⟩ := Nd.open_all h4
      obtain ⟨cs5, ha5, hl5⟩ := Nd.open_all h5
      simp at e0 e1 e2 e3
      subst e0 e1 e2 e3
      exact ⟨⟨n0, n1, s2, n3, cs4, cs5⟩, e, f, rfl, ha4, ha5, b2, hl4, hl5⟩
set_option maxRecDepth 100000 in
theorem open_all {v : Value} {x : DataW H × List MemPlace} (h : DataW.trod enc Tryd.prog w base spare held fuel 22 [v] = some x) :
    ∃ ss, At w 0 v ss ∧ Ok ss ∧ ss.length ≤ maxLen := by
  rcases open_slice Tryd.underlying22 h with ⟨hcs, _⟩ | ⟨a, len, cap, m, n, D, Pl, hcs, hb, hl, hcm, hm, _, hx⟩
  · obtain rfl : v = .slice none 0 0 := by simpa using hcs
    exact ⟨[], ⟨none, 0, rfl, Nat.le_refl _, Nat.zero_le _, .inl rfl⟩, fun _ h => by (cases h), Nat.zero_le _⟩
  · obtain rfl : v = .slice (some a) len cap := by simpa using hcs
    have hlm : len ≤ m := by rw [hm]; split <;> omega
    rw [cellsStep] at hx
    have each : ∀ i, i < len → ∃ q : StepD, w.cell? (a.add (i * 6)) = some (.int .i64 q.kind) ∧ w.cell? (a.add (i * 6 + 1)) = some (.int .i64 q.parent) ∧ w.cell? (a.add (i * 6 + 2)) = some (.string q.name) ∧ w.cell? (a.add (i * 6 + 3)) = some (.int .i64 q.arg) ∧ (∃ vc ve, w.cell? (a.add (i * 6 + 4)) = some vc ∧ w.cell? (a.add (i * 6 + 5)) = some ve ∧ Nd.At w 0 vc q.cond ∧ Nd.At w 0 ve q.expr) ∧ q.name.size ≤ maxLen ∧ q.cond.length ≤ maxLen ∧ q.expr.length ≤ maxLen := fun i hi => by
      obtain ⟨cs', c0, d0⟩ := hx i (by omega)
      obtain ⟨e, vc, ve, rfl, g1, g2, g3⟩ := open_one d0
      obtain ⟨_, _, hc⟩ := World.cells?_some c0
      have k0 := hc 0 (by omega)
      have k1 := hc 1 (by omega)
      have k2 := hc 2 (by omega)
      have k3 := hc 3 (by omega)
      have k4 := hc 4 (by omega)
      have k5 := hc 5 (by omega)
      rw [Nd.add_add] at k0 k1 k2 k3 k4 k5
      exact ⟨e, k0, k1, k2, k3, ⟨vc, ve, k4, k5, g1, g2⟩, g3⟩
    haveI : Inhabited StepD := ⟨⟨0, 0, ByteArray.empty, 0, [], []⟩⟩
    obtain ⟨F, hF⟩ := choose_lt each
    refine ⟨(List.range len).map F, ?_, ?_, by simp; omega⟩
    · refine ⟨some a, cap, by simp, by simpa using hl, hcm, ?_⟩
      rcases Nat.eq_zero_or_pos len with h0 | h0
      · exact .inl (by simp [h0])
      · right
        obtain ⟨b, off, spot⟩ := a
        have hspot : spot = none := by simpa [Addr.add] using World.cell?_spot (hF 0 h0).1
        subst hspot
        refine ⟨b, off, rfl, Nat.zero_le _, lt_of_cell (hF 0 h0).1, fun i hi => ?_⟩
        have hi' : i < len := by simpa using hi
        have h2 := hF i hi'
        simp only [List.getElem_map, List.getElem_range]
        simp only [Go.WideShapes.add_plain, ← Nat.add_assoc] at h2 ⊢
        exact ⟨h2.1, h2.2.1, h2.2.2.1, h2.2.2.2.1, h2.2.2.2.2.1⟩
    · intro q hq
      obtain ⟨i, hi, rfl⟩ := List.mem_map.1 hq
      have h2 := hF i (by simpa using hi)
      exact h2.2.2.2.2.2
end
end St
end Go.Proofs.YtedgobdnjemegaaDoor
/- A process made plain, as plain functions: the tree of a step, made plain, and the list that it comes to. -/
namespace Go.Proofs.YtedgobdnjemegaaDoor
open Go.RowKit
set_option linter.unusedVariables false
namespace Pl
open Ex (hid inR)
open Nd (NodeD)
open St (StepD)
open Tr (Chain cutTo onPath top nf ElemD)
open Pf
/-- A step with what is below it. -/
structure PT where
  s : StepD
  kids : List PT
def gT (ss : List StepD) : Nat → Nat → PT
  | 0, k => ⟨PJ ss k, []⟩
  | f + 1, k => ⟨PJ ss k, (kidsL ss k).map (gT ss f)⟩
def pieceT (b : PT) : List PT := if b.s.kind = 1 then b.kids else [b]
def lineT (l : List PT) : List PT := l.flatMap pieceT
def TJ (l : List PT) (i : Nat) : PT := l[i]?.getD ⟨⟨0, 0, ByteArray.empty, 0, [], []⟩, []⟩
theorem TJ_eq {l : List PT} {i : Nat} (h : i < l.length) : TJ l i = l[i] := by unfold TJ; rw [List.getElem?_eq_getElem h]; rfl
def condT (c : List NodeD) (t : PT) : PT := if 0 < c.length then ⟨{ t.s with cond := c }, t.kids⟩ else t
def wholeT (s : StepD) (l : List PT) : PT := if l.length = 1 then condT s.cond (TJ l 0) else ⟨s, l⟩
def plB (ss : List StepD) : Nat → Nat → PT
  | 0, k => ⟨PJ ss k, []⟩
  | f + 1, k => if (PJ ss k).kind = 1 then wholeT (PJ ss k) (lineT ((kidsL ss k).map (plB ss f))) else ⟨PJ ss k, (kidsL ss k).map (plB ss f)⟩
def lst : Nat → List StepD → PT → Int → List StepD
  | 0, acc, _, _ => acc
  | f + 1, acc, t, par => t.kids.foldl (fun a b => lst f a b (acc.length : Int)) (acc ++ [{ t.s with parent := par }])
def cnt : Nat → PT → Nat
  | 0, _ => 0
  | f + 1, t => 1 + (t.kids.map (cnt f)).sum
theorem line_snoc (l : List PT) (b : PT) : lineT (l ++ [b]) = lineT l ++ pieceT b := by simp [lineT]
theorem lst_len : ∀ (f : Nat) (acc : List StepD) (t : PT) (par : Int), (lst f acc t par).length = acc.length + cnt f t
  | 0, acc, t, par => by simp [lst, cnt]
  | f + 1, acc, t, par => by
    have h : ∀ (ks : List PT) (a : List StepD), (ks.foldl (fun a b => lst f a b (acc.length : Int)) a).length = a.length + (ks.map (cnt f)).sum := by
      intro ks
      induction ks with
      | nil => intro a; simp
      | cons b ks ih => intro a; rw [List.foldl_cons, ih, lst_len f]; simp; omega
    rw [lst, h, cnt]
    simp
    omega
/-- How the list stands when some kids are told. -/
def lstK (f : Nat) (acc : List StepD) (t : PT) (par : Int) (m : Nat) : List StepD := (t.kids.take m).foldl (fun a b => lst f a b (acc.length : Int)) (acc ++ [{ t.s with parent := par }])
theorem lstK_zero (f : Nat) (acc : List StepD) (t : PT) (par : Int) : lstK f acc t par 0 = acc ++ [{ t.s with parent := par }] := by simp [lstK]
theorem lstK_succ (f : Nat) (acc : List StepD) (t : PT) (par : Int) {m : Nat} (h : m < t.kids.length) : lstK f acc t par (m + 1) = lst f (lstK f acc t par m) t.kids[m] (acc.length : Int) := by
  unfold lstK
  rw [List.take_succ_eq_append_getElem h, List.foldl_append]
  rfl
theorem lstK_all (f : Nat) (acc : List StepD) (t : PT) (par : Int) : lstK f acc t par t.kids.length = lst (f + 1) acc t par := by
  unfold lstK
  rw [List.take_length]
  rfl
theorem fold_le (f : Nat) (n : Int) : ∀ (ks : List PT) (a : List StepD), a.length ≤ (ks.foldl (fun a b => lst f a b n) a).length := by
  intro ks
  induction ks with
  | nil => intro a; simp
  | cons b ks ih => intro a; rw [List.foldl_cons]; have := ih (lst f a b n); rw [lst_len] at this; omega
theorem lstK_le (f : Nat) (acc : List StepD) (t : PT) (par : Int) (m : Nat) : (lstK f acc t par m).length ≤ (lst (f + 1) acc t par).length := by
  have e : lst (f + 1) acc t par = (t.kids.drop m).foldl (fun a b => lst f a b (acc.length : Int)) (lstK f acc t par m) := by
    unfold lstK
    rw [← List.foldl_append, List.take_append_drop]
    rfl
  rw [e]
  exact fold_le _ _ _ _
theorem lstK_lst_le (f : Nat) (acc : List StepD) (t : PT) (par : Int) {m : Nat} (h : m < t.kids.length) : (lst f (lstK f acc t par m) t.kids[m] (acc.length : Int)).length ≤ (lst (f + 1) acc t par).length := by
  rw [← lstK_succ f acc t par h]
  exact lstK_le _ _ _ _ _
theorem lstK_pos (f : Nat) (acc : List StepD) (t : PT) (par : Int) (m : Nat) : acc.length < (lstK f acc t par m).length := by
  have h := fold_le f (acc.length : Int) (t.kids.take m) (acc ++ [{ t.s with parent := par }])
  rw [List.length_append, List.length_singleton] at h
  unfold lstK
  omega
/-! ### how much of it there can be -/
def SB : Nat → Nat
  | 0 => 1
  | f + 1 => 1 + 24 * SB f
theorem SB8 : SB 8 ≤ 1000000000000 := by decide
theorem kids_le {ss : List StepD} (hl : ss.length ≤ 24) (k : Nat) : (kidsL ss k).length ≤ 24 := Nat.le_trans (Pf.kidsN_le ss ss.length k) hl
theorem sum_le {α : Type} (g : α → Nat) (b : Nat) : ∀ (l : List α), (∀ x ∈ l, g x ≤ b) → (l.map g).sum ≤ l.length * b
  | [], _ => by simp
  | x :: l, h => by
    have h1 := h x (by simp)
    have h2 := sum_le g b l (fun y hy => h y (by simp [hy]))
    simp only [List.map_cons, List.sum_cons, List.length_cons, Nat.succ_mul]
    omega
theorem mem_sum {α : Type} (g : α → Nat) : ∀ (l : List α) (x : α), x ∈ l → g x ≤ (l.map g).sum
  | [], x, h => by cases h
  | y :: l, x, h => by
    simp only [List.map_cons, List.sum_cons]
    rcases List.mem_cons.1 h with rfl | h
    · omega
    · have := mem_sum g l x h
      omega
theorem line_sum (F b : Nat) : ∀ (l : List PT), (∀ x ∈ l, ∀ F, cnt F x ≤ b) → ((lineT l).map (cnt F)).sum ≤ l.length * b
  | [], _ => by simp [lineT]
  | x :: l, h => by
    have h1 := h x (by simp)
    have h2 := line_sum F b l (fun y hy => h y (by simp [hy]))
    have e : lineT (x :: l) = pieceT x ++ lineT l := by simp [lineT]
    have h3 : ((pieceT x).map (cnt F)).sum ≤ b := by
      unfold pieceT
      by_cases hk : x.s.kind = 1
      · rw [if_pos hk]
        have := h1 (F + 1)
        rw [cnt] at this
        omega
      · rw [if_neg hk]
        simpa using h1 F
    rw [e, List.map_append, List.sum_append, List.length_cons, Nat.succ_mul]
    omega
theorem cnt_cond (F : Nat) (c : List NodeD) (t : PT) : cnt F (condT c t) = cnt F t := by
  unfold condT
  by_cases h : 0 < c.length
  · rw [if_pos h]
    cases F <;> rfl
  · rw [if_neg h]
theorem cnt_plB {ss : List StepD} (hl : ss.length ≤ 24) : ∀ (f k F : Nat), cnt F (plB ss f k) ≤ SB f
  | 0, k, F => by
    cases F
    · simp [cnt, SB]
    · simp [cnt, plB, SB]
  | f + 1, k, 0 => by simp [cnt]
  | f + 1, k, F + 1 => by
    have hk := kids_le hl k
    have hm : ∀ x ∈ (kidsL ss k).map (plB ss f), ∀ F, cnt F x ≤ SB f := by
      intro x hx F
      obtain ⟨j, _, rfl⟩ := List.mem_map.1 hx
      exact cnt_plB hl f j F
    have hb : ((kidsL ss k).map (plB ss f)).length * SB f ≤ 24 * SB f := Nat.mul_le_mul_right _ (by simpa using hk)
    rw [plB]
    by_cases h1 : (PJ ss k).kind = 1
    · rw [if_pos h1]
      have hs := fun F => line_sum F (SB f) _ hm
      unfold wholeT
      by_cases h2 : (lineT ((kidsL ss k).map (plB ss f))).length = 1
      · rw [if_pos h2, cnt_cond, TJ_eq (by omega), SB]
        have h3 := mem_sum (cnt (F + 1)) (lineT ((kidsL ss k).map (plB ss f))) _ (List.getElem_mem (show 0 < _ by omega))
        have := hs (F + 1)
        omega
      · rw [if_neg h2, cnt, SB]
        have := hs F
        simp only
        omega
    · rw [if_neg h1, cnt, SB]
      have := sum_le (cnt F) (SB f) _ (fun x hx => hm x hx F)
      simp only
      omega
/-! ### how deep -/
theorem chain_one {es : List Tr.ElemD} : ∀ {l m : List Nat}, Chain es l → Chain es m → top l = top m → l = m
  | [], [], _, _, _ => rfl
  | [], b :: m, _, _, h => by have : (-1 : Int) = (b : Int) := h; omega
  | a :: l, [], _, _, h => by have : (a : Int) = (-1 : Int) := h; omega
  | a :: l, b :: m, h1, h2, h => by
    have e : a = b := by have : (a : Int) = (b : Int) := h; omega
    subst e
    obtain ⟨⟨e1, x1, y1⟩, _, z1⟩ := h1
    obtain ⟨⟨e2, x2, y2⟩, _, z2⟩ := h2
    have : e1 = e2 := Option.some.inj (x1.symm.trans x2)
    subst this
    rw [chain_one z1 z2 (y1.symm.trans y2)]
theorem kid_mem {ss : List StepD} {k j : Nat} (h : j ∈ kidsL ss k) : j < ss.length ∧ (PJ ss j).parent = (k : Int) := by
  unfold kidsL Pf.kidsN at h
  have := List.mem_filter.1 h
  exact ⟨List.mem_range.1 this.1, by simpa using this.2⟩
def deepG (ss : List StepD) (k : Nat) : Nat := (path ss (k + 1)).length
theorem deep_le {ss : List StepD} {k : Nat} (h : pFault ss = 0) (hk : k < ss.length) : deepG ss k ≤ 7 := (walked (ss := ss) (i := k + 1) hk (first_to (of_p h).2.1 hk)).deep
theorem kid_deep {ss : List StepD} {k j : Nat} (h : pFault ss = 0) (hk : k < ss.length) (hj : j ∈ kidsL ss k) : deepG ss j = deepG ss k + 1 := by
  obtain ⟨hj1, hj2⟩ := kid_mem hj
  have w1 := (walked (ss := ss) (i := j + 1) hj1 (first_to (of_p h).2.1 hj1)).chain
  have w2 := (walked (ss := ss) (i := k + 1) hk (first_to (of_p h).2.1 hk)).chain
  have e : path ss (j + 1) = j :: cutTo (PJ ss j).parent (path ss j) := rfl
  rw [e] at w1
  obtain ⟨⟨e1, x1, y1⟩, _, z1⟩ := w1
  have hp : e1.parent = (k : Int) := by
    rw [← hj2]
    have : (es ss)[j]? = some ⟨ss[j].name, ss[j].parent, []⟩ := by simp [es, hj1]
    rw [x1] at this
    cases this
    rw [PJ_eq hj1]
  have h3 := chain_one z1 w2 (by rw [← y1, hp]; rfl)
  unfold deepG
  rw [e, h3]
  simp
end Pl
end Go.Proofs.YtedgobdnjemegaaDoor
