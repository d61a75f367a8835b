/- Laid together: TfA, PiB. -/
import Derived.Test.YtahkpgffoiaeiaaGreatDoorJProcOf15
import Derived.Test.YtahkpgffoiaeiaaGreatDoorJProcOf14
import Derived.RangeFuncBox
import Derived.Maps.AppendAt
import Derived.Test.YtahkpgffoiaeiaaGreatDoorJProcOf8
/- Elements that a function has made itself: a row of them, and a row of attrs for each, in blocks of their own. -/
namespace Go.Proofs.YtahkpgffoiaeiaaGreatDoor
open Go.RowKit
set_option linter.unusedVariables false
namespace Tf
open Tr (AttrD ElemD AttrsAt ElemsAt)
open Nst (own)
def aval (a : AttrD) : List Value := [.string a.name, .string a.value]
def avals (l : List AttrD) : List Value := l.flatMap aval
theorem avals_len (l : List AttrD) : (avals l).length = l.length * 2 := by
  induction l with
  | nil => rfl
  | cons a l ih => simp only [avals, List.flatMap_cons, List.length_append, List.length_cons] at ih ⊢; rw [ih]; simp [aval]; omega
theorem avals_snoc (l : List AttrD) (a : AttrD) : avals (l ++ [a]) = avals l ++ aval a := by simp [avals]
theorem avals_get : ∀ (l : List AttrD) (i : Nat) (h : i < l.length), (avals l)[i * 2]? = some (.string l[i].name) ∧ (avals l)[i * 2 + 1]? = some (.string l[i].value)
  | [], i, h => by simp at h
  | a :: l, 0, h => by simp [avals, aval]
  | a :: l, i + 1, h => by
    have ih := avals_get l i (by simpa using h)
    have e : avals (a :: l) = .string a.name :: .string a.value :: avals l := rfl
    rw [e, show (i + 1) * 2 = i * 2 + 2 by omega, show i * 2 + 2 + 1 = (i * 2 + 1) + 2 by omega]
    simpa using ih
def EJ (es : List ElemD) (i : Nat) : ElemD := es[i]?.getD ⟨ByteArray.empty, 0, []⟩
theorem EJ_eq {es : List ElemD} {i : Nat} (h : i < es.length) : EJ es i = es[i] := by unfold EJ; rw [List.getElem?_eq_getElem h, Option.getD_some]
theorem EJ_left {es : List ElemD} {x : ElemD} {i : Nat} (h : i < es.length) : EJ (es ++ [x]) i = EJ es i := by unfold EJ; rw [List.getElem?_append_left h]
theorem EJ_last (es : List ElemD) (x : ElemD) : EJ (es ++ [x]) es.length = x := by unfold EJ; simp
def ecell (e : ElemD) (va : Value) : List Value := [.string e.tag, .int .i64 e.parent, va]
def asub (va : Value) (l : List AttrD) : Nst.Sub := ⟨73, 2, va, l.length, avals l⟩
abbrev EAt (w : World) (B : Nat) (v : Value) (es : List ElemD) (F : Nat → Value) : Prop := Nst.At w B 48 3 v es.length (fun j => ecell (EJ es j) (F j)) es.length (fun j => asub (F j) (EJ es j).attrs)
def EOwn (w : World) (B : Nat) (v : Value) (es : List ElemD) : Prop := ∃ F, EAt w B v es F
theorem ecell_len (e : ElemD) (va : Value) : (ecell e va).length = 3 := rfl
theorem EOwn.below {w w' : World} {B : Nat} {v : Value} {es : List ElemD} (h : EOwn w B v es) (hb : Below w.heap.size w w') : EOwn w' B v es := by
  obtain ⟨F, h⟩ := h; exact ⟨F, h.below hb⟩
theorem EOwn.keep {w w' : World} {B : Nat} {v : Value} {es : List ElemD} (h : EOwn w B v es) (hb : ∀ b, B ≤ b → b < w.heap.size → w'.heap[b]? = w.heap[b]?) : EOwn w' B v es := by
  obtain ⟨F, h⟩ := h; exact ⟨F, h.keep hb⟩
theorem EOwn.mono {w : World} {B B' : Nat} {v : Value} {es : List ElemD} (h : EOwn w B v es) (hb : B' ≤ B) : EOwn w B' v es := by
  obtain ⟨F, h⟩ := h; exact ⟨F, h.mono hb⟩
theorem EOwn.nil (w : World) (B : Nat) : EOwn w B (.slice none 0 0) [] := ⟨fun _ => .slice none 0 0, Nst.At.nil _ _ _ _ _ _⟩
theorem EOwn.slice {w : World} {B : Nat} {v : Value} {es : List ElemD} (h : EOwn w B v es) : ∃ a cap, v = .slice a es.length cap := by
  obtain ⟨F, h⟩ := h; exact Nst.own_slice h.row
theorem attrs_own {w : World} {B : Nat} {va : Value} {l : List AttrD} (h : w.ownsRow B 73 2 va l.length (avals l)) : AttrsAt w B va l := by
  rcases Nat.eq_zero_or_pos l.length with h0 | h0
  · have e : l = [] := List.eq_nil_of_length_eq_zero h0
    subst e
    rcases h.2 with ⟨rfl, _⟩ | ⟨g, cap, cur, rfl, _, _, _, hm, _⟩
    · exact ⟨_, _, rfl, Nat.le_refl _, Nat.zero_le _, .inl rfl⟩
    · exact ⟨_, _, rfl, Nat.zero_le _, hm, .inl rfl⟩
  · obtain ⟨g, cap, rfl, hB, hg, hc, hm⟩ := Nst.own_some h h0
    refine ⟨_, _, rfl, hc, hm, .inr ⟨g, 0, rfl, hB, hg, fun i hi => ?_⟩⟩
    have h1 := h.cellAt (i * 2) (by omega)
    have h2 := h.cellAt (i * 2 + 1) (by omega)
    have h3 := avals_get l i hi
    rw [Nat.zero_add]
    exact ⟨h1.trans h3.1, h2.trans h3.2⟩
theorem EOwn.elems {w : World} {B : Nat} {v : Value} {es : List ElemD} (h : EOwn w B v es) : ElemsAt w B v es := by
  obtain ⟨F, h⟩ := h
  rcases Nat.eq_zero_or_pos es.length with h0 | h0
  · have e : es = [] := List.eq_nil_of_length_eq_zero h0
    subst e
    rcases h.row.2 with ⟨rfl, _⟩ | ⟨g, cap, cur, rfl, _, _, _, hm, _⟩
    · exact ⟨_, _, rfl, Nat.le_refl _, Nat.zero_le _, .inl rfl⟩
    · exact ⟨_, _, rfl, Nat.zero_le _, hm, .inl rfl⟩
  · obtain ⟨g, cap, rfl, hB, hg, hc, hm⟩ := Nst.own_some h.row h0
    refine ⟨_, _, rfl, hc, hm, .inr ⟨g, 0, rfl, hB, hg, fun i hi => ?_⟩⟩
    have hl : ∀ j, j < es.length → (ecell (EJ es j) (F j)).length = 3 := fun j _ => rfl
    have h1 := h.cell hl hi (i := 0) (by omega)
    have h2 := h.cell hl hi (i := 1) (by omega)
    have h3 := h.cell hl hi (i := 2) (by omega)
    have h4 : AttrsAt w B (F i) (EJ es i).attrs := attrs_own (h.sub i hi)
    rw [EJ_eq hi] at h1 h2 h3 h4
    rw [Nat.zero_add]
    exact ⟨h1, h2, F i, h3, h4⟩
theorem push_at {w0 w w2 : World} {B : Nat} {v v' va : Value} {es : List ElemD} {x : ElemD} {F : Nat → Value} (h : EAt w0 B v es F) (hB : B ≤ w0.heap.size) (hb : Below w0.heap.size w0 w)
    (ha : w.ownsRow w0.heap.size 73 2 va x.attrs.length (avals x.attrs)) (hown : w2.ownsRow B 48 3 v' (es.length + 1) (Nst.flat (fun j => ecell (EJ es j) (F j)) es.length ++ ecell x va))
    (hg : w.grownBy w2 v.ownBlock) (hat : v'.ownBlock = v.ownBlock ∨ v'.ownBlock = some w.heap.size) : EOwn w2 B v' (es ++ [x]) := by
  have h1 := h.below hb
  have hva : ∀ b, own va b → w0.heap.size ≤ b := fun b hb => (Nst.own_lt ha hb).1
  have hp := h1.push (p := 1) (t := fun _ => asub va x.attrs) (fun i _ => Nst.own_mono ha hB) (fun i j hi hj hij => by omega)
    (fun i j hi _ b e1 e2 => by have := (Nst.own_lt (h.sub i hi) e1).2; have := hva b e2; omega)
    (fun i _ b e1 e2 => by have := (Nst.own_lt h.row e2).2; have := hva b e1; omega) hown hg hat
  refine ⟨fun j => if j = es.length then va else F j, ?_⟩
  unfold EAt
  rw [List.length_append]
  refine hp.congr (fun j hj => ?_) (fun j hj => ?_)
  · by_cases e : j = es.length
    · subst e
      simp only [if_true, EJ_last]
    · have hl : j < es.length := Nat.lt_of_le_of_ne (Nat.le_of_lt_succ hj) e
      simp only [e, if_false, EJ_left hl]
  · by_cases e : j = es.length
    · subst e
      simp only [if_true, EJ_last, Nat.lt_irrefl, if_false]
    · have hl : j < es.length := Nat.lt_of_le_of_ne (Nat.le_of_lt_succ hj) e
      simp only [e, if_false, EJ_left hl, hl, if_true]
theorem infoAttr : (Tryz.prog.info? 73).map (fun i => (i.zero, i.size, i.bytes)) = some (some (.agg #[.string ⟨#[]⟩, .string ⟨#[]⟩]), 2, 32) := by kernel_rfl
theorem infoElem : (Tryz.prog.info? 48).map (fun i => (i.zero, i.size, i.bytes)) = some (some (.agg #[.string ⟨#[]⟩, .int .i64 0, .slice none 0 0]), 3, 48) := by kernel_rfl
/-- The cells of one record that has just been laid. -/
theorem news {w : World} (cs : Array Value) (t : TypeId) (b : Nat) (hb : b = w.heap.size) : ∀ j u, cs.toList[j]? = some u → (w.alloc (.cells cs t)).cell? ((⟨b, 0, none⟩ : Addr).add j) = some u := by
  subst hb
  intro j u hj
  rw [Go.WideShapes.add_plain]
  simp only [Nat.zero_add, World.cell?_alloc_new]
  simpa using hj
end Tf
end Go.Proofs.YtahkpgffoiaeiaaGreatDoor
/- What the program asks of a step by its rule. -/
namespace Go.Proofs.YtahkpgffoiaeiaaGreatDoor
open Go.RowKit
set_option linter.unusedVariables false
namespace Pf
open Ex (hid inR eFault typeCode typeVal implExprFault)
open Nd (NodeD)
open St (StepD)
open Tr (nf)
def allowsR (r : RuleD) (s : StepD) : Bool := (r.hn || s.name.toList.isEmpty) && (decide (0 < r.ma) || (s.arg == 0)) && (r.he || decide (s.expr.length = 0))
def partsR (r : RuleD) (s : StepD) : Int := if r.hn = true ∧ nf s.name.data.toList ≠ 0 then nf s.name.data.toList else if s.arg < r.la ∨ r.ma < s.arg then 3 else if r.he = true then eFault s.expr else 0
theorem allows_eq {s : StepD} (h : inR s.kind 1 8 = true) : allowsR (ruleD s.kind) s = bare s := by
  unfold allowsR bare
  rcases kinds h with e | e | e | e | e | e | e | e <;> rw [e] <;> simp [rule1, rule2, rule3, rule4, rule5, rule6, rule7, rule8, inR]
theorem parts_eq {s : StepD} (h : inR s.kind 1 8 = true) (hb : bare s = true) : partsR (ruleD s.kind) s = partC s := by
  unfold partsR partC argOk
  unfold bare at hb
  rcases kinds h with e | e | e | e | e | e | e | e <;> rw [e] at hb ⊢ <;> simp [inR] at hb
  · have := hb.1.2
    simp [rule1, this]
  · have := hb.1
    simp [rule2, this]
  · have := hb.1.2
    simp [rule3, this]
  · have := hb.1.2
    simp [rule4, this]
  · have e1 : (s.arg < 0 ∨ 9 < s.arg) ↔ inR s.arg 0 9 = false := by rw [Ex.inR_not]; omega
    simp [rule5, e1]
  · have e1 : (s.arg < 1 ∨ 99 < s.arg) ↔ inR s.arg 1 99 = false := by rw [Ex.inR_not]; omega
    simp [rule6, e1]
  · have e1 : (s.arg < 0 ∨ 3 < s.arg) ↔ inR s.arg 0 3 = false := by rw [Ex.inR_not]; omega
    simp [rule7, e1]
  · have e1 : (s.arg < 1 ∨ 99 < s.arg) ↔ inR s.arg 1 99 = false := by rw [Ex.inR_not]; omega
    simp [rule8, e1]
theorem parts_nm {r : RuleD} {s : StepD} (h : r.hn = true) (h2 : nf s.name.data.toList ≠ 0) : partsR r s = nf s.name.data.toList := by unfold partsR; rw [if_pos ⟨h, h2⟩]
theorem parts_rng {r : RuleD} {s : StepD} (h : ¬ (r.hn = true ∧ nf s.name.data.toList ≠ 0)) (h2 : s.arg < r.la ∨ r.ma < s.arg) : partsR r s = 3 := by unfold partsR; rw [if_neg h, if_pos h2]
theorem parts_ex {r : RuleD} {s : StepD} (h : ¬ (r.hn = true ∧ nf s.name.data.toList ≠ 0)) (h2 : ¬ (s.arg < r.la ∨ r.ma < s.arg)) (h3 : r.he = true) : partsR r s = eFault s.expr := by unfold partsR; rw [if_neg h, if_neg h2, if_pos h3]
theorem parts_no {r : RuleD} {s : StepD} (h : ¬ (r.hn = true ∧ nf s.name.data.toList ≠ 0)) (h2 : ¬ (s.arg < r.la ∨ r.ma < s.arg)) (h3 : r.he = false) : partsR r s = 0 := by unfold partsR; rw [if_neg h, if_neg h2, if_neg (by simp [h3])]
set_option maxRecDepth 100000 in
set_option maxHeartbeats 1000000 in
theorem hasArg (r : RuleD) (w : World) : Calls Tryz.prog 118 #[.agg #[.string r.word, .bool r.hn, .bool r.he, .int .i64 r.la, .int .i64 r.ma, .int .i64 r.lk, .int .i64 r.mx]] w fun e w' => e = .returned (.bool (decide (0 < r.ma))) ∧ Below w.heap.size w w' := by
  go_enter Tryz.func118, Tryz.ntmps118
  go_wp2
  go_ret
  exact ⟨rfl, (Below.refl _ w).alloc (Nat.le_refl _) _⟩
set_option maxRecDepth 100000 in
set_option maxHeartbeats 8000000 in
theorem allows (r : RuleD) (s : StepD) (vc : Value) (a : Option Addr) (n cap : Nat) (w : World) (hn : n = s.expr.length) (hl : n ≤ 1048576) (hvc : ∃ x y z, vc = .slice x y z) :
    Calls Tryz.prog 106 #[.agg #[.string r.word, .bool r.hn, .bool r.he, .int .i64 r.la, .int .i64 r.ma, .int .i64 r.lk, .int .i64 r.mx], .agg #[.int .i64 s.kind, .int .i64 s.parent, .string s.name, .int .i64 s.arg, vc, .slice a n cap]] w fun e w' => e = .returned (.bool (allowsR r s)) ∧ Below w.heap.size w w' := by
  obtain ⟨vx, vy, vz, rfl⟩ := hvc
  have HA := hid (fun w' => hasArg r w')
  have HB : Hid (Below w.heap.size w ((w.alloc (.cells #[.string r.word, .bool r.hn, .bool r.he, .int .i64 r.la, .int .i64 r.ma, .int .i64 r.lk, .int .i64 r.mx] 156)).alloc (.cells #[.int .i64 s.kind, .int .i64 s.parent, .string s.name, .int .i64 s.arg, .slice vx vy vz, .slice a n cap] 42))) := hid (((Below.refl _ w).alloc (Nat.le_refl _) _).alloc (by simp) _)
  unfold allowsR
  rw [← hn]
  clear hn
  have hE : decide (n = 0) = ((n : Int) == 0) := by
    by_cases h : n = 0
    · simp [h]
    · have : ((n : Int) == 0) = false := beq_eq_false_iff_ne.2 (by omega)
      simp [h, this]
  rw [hE]
  clear hE
  generalize s.kind = kind at *
  generalize s.parent = par at *
  generalize s.name = nm at *
  generalize s.arg = arg at *
  obtain ⟨word, hn, he, la, ma, lk, mx⟩ := r
  simp only at HA HB ⊢
  cases hn
  · cases b2 : nm.toList.isEmpty
    · skip
      go_enter Tryz.func106, Tryz.ntmps106
      go_wp2
      go_ret
      exact ⟨by simp [*], HB.out⟩
    · skip
      go_enter Tryz.func106, Tryz.ntmps106
      go_wp2_with fail
      refine (HA.out _).mono ?_
      rintro e w1 ⟨rfl, hb1⟩
      have hz1 := hb1.size
      simp only [World.size_alloc] at hz1
      have l0 : w.heap.size < w1.heap.size := by omega
      have l1 : w.heap.size + 1 < w1.heap.size := by omega
      have r0 := (hb1.cell (p := ⟨w.heap.size, 2, none⟩) (by simp; omega)).trans (show _ = some (.bool he) by go_simp)
      have r1 := (hb1.cell (p := ⟨w.heap.size + 1, 3, none⟩) (by simp)).trans (show _ = some (.int .i64 arg) by go_simp)
      have r2 := (hb1.cell (p := ⟨w.heap.size + 1, 5, none⟩) (by simp)).trans (show _ = some (.slice a n cap) by go_simp)
      have HB1 := hid (HB.out.trans (hb1.mono HB.out.size))
      clear HA HB hb1
      by_cases m : 0 < ma
      · have m1 : decide (0 < ma) = true := by simp [m]
        cases he
        · cases b6 : ((n : Int) == 0)
          · skip
            go_wp2
            go_ret
            exact ⟨by simp [*], HB1.out⟩
          · skip
            go_wp2
            go_ret
            exact ⟨by simp [*], HB1.out⟩
        · skip
          go_wp2
          go_ret
          exact ⟨by simp [*], HB1.out⟩
      · have m1 : decide (0 < ma) = false := by simp [m]
        cases b4 : (arg == 0)
        · skip
          go_wp2
          go_ret
          exact ⟨by simp [*], HB1.out⟩
        cases he
        · cases b6 : ((n : Int) == 0)
          · skip
            go_wp2
            go_ret
            exact ⟨by simp [*], HB1.out⟩
          · skip
            go_wp2
            go_ret
            exact ⟨by simp [*], HB1.out⟩
        · skip
          go_wp2
          go_ret
          exact ⟨by simp [*], HB1.out⟩
  · skip
    go_enter Tryz.func106, Tryz.ntmps106
    go_wp2_with fail
    refine (HA.out _).mono ?_
    rintro e w1 ⟨rfl, hb1⟩
    have hz1 := hb1.size
    simp only [World.size_alloc] at hz1
    have l0 : w.heap.size < w1.heap.size := by omega
    have l1 : w.heap.size + 1 < w1.heap.size := by omega
    have r0 := (hb1.cell (p := ⟨w.heap.size, 2, none⟩) (by simp; omega)).trans (show _ = some (.bool he) by go_simp)
    have r1 := (hb1.cell (p := ⟨w.heap.size + 1, 3, none⟩) (by simp)).trans (show _ = some (.int .i64 arg) by go_simp)
    have r2 := (hb1.cell (p := ⟨w.heap.size + 1, 5, none⟩) (by simp)).trans (show _ = some (.slice a n cap) by go_simp)
    have HB1 := hid (HB.out.trans (hb1.mono HB.out.size))
    clear HA HB hb1
    by_cases m : 0 < ma
    · have m1 : decide (0 < ma) = true := by simp [m]
      cases he
      · cases b6 : ((n : Int) == 0)
        · skip
          go_wp2
          go_ret
          exact ⟨by simp [*], HB1.out⟩
        · skip
          go_wp2
          go_ret
          exact ⟨by simp [*], HB1.out⟩
      · skip
        go_wp2
        go_ret
        exact ⟨by simp [*], HB1.out⟩
    · have m1 : decide (0 < ma) = false := by simp [m]
      cases b4 : (arg == 0)
      · skip
        go_wp2
        go_ret
        exact ⟨by simp [*], HB1.out⟩
      cases he
      · cases b6 : ((n : Int) == 0)
        · skip
          go_wp2
          go_ret
          exact ⟨by simp [*], HB1.out⟩
        · skip
          go_wp2
          go_ret
          exact ⟨by simp [*], HB1.out⟩
      · skip
        go_wp2
        go_ret
        exact ⟨by simp [*], HB1.out⟩
set_option maxRecDepth 100000 in
set_option maxHeartbeats 8000000 in
theorem partsFault (r : RuleD) (s : StepD) (vc : Value) (a : Option Addr) (cap B : Nat) (w : World) (hl : s.expr.length ≤ 1048576) (hn : s.name.size ≤ maxLen) (hvc : ∃ x y z, vc = .slice x y z) (hve : Nd.At w B (.slice a s.expr.length cap) s.expr) :
    Calls Tryz.prog 108 #[.agg #[.string r.word, .bool r.hn, .bool r.he, .int .i64 r.la, .int .i64 r.ma, .int .i64 r.lk, .int .i64 r.mx], .agg #[.int .i64 s.kind, .int .i64 s.parent, .string s.name, .int .i64 s.arg, vc, .slice a s.expr.length cap]] w fun e w' => e = .returned (.int .i64 (partsR r s)) ∧ Below w.heap.size w w' := by
  obtain ⟨vx, vy, vz, rfl⟩ := hvc
  have hB : Below w.heap.size w ((w.alloc (.cells #[.string r.word, .bool r.hn, .bool r.he, .int .i64 r.la, .int .i64 r.ma, .int .i64 r.lk, .int .i64 r.mx] 156)).alloc (.cells #[.int .i64 s.kind, .int .i64 s.parent, .string s.name, .int .i64 s.arg, .slice vx vy vz, .slice a s.expr.length cap] 42)) := ((Below.refl _ w).alloc (Nat.le_refl _) _).alloc (by simp) _
  have HX := hid (implExprFault B s.expr _ _ hl (hve.below hB))
  have HN := hid (fun w' => Tr.impl_nf s.name w' hn)
  have HB := hid hB
  clear hB hve hn
  have F1 := hid (parts_nm (r := r) (s := s))
  have F2 := hid (parts_rng (r := r) (s := s))
  have F3 := hid (parts_ex (r := r) (s := s))
  have F4 := hid (parts_no (r := r) (s := s))
  generalize partsR r s = pr at *
  generalize eFault s.expr = ef at *
  generalize nf s.name.data.toList = nc at *
  generalize s.expr.length = n at *
  generalize s.kind = kind at *
  generalize s.parent = par at *
  generalize s.name = nm at *
  generalize s.arg = arg at *
  obtain ⟨word, hn, he, la, ma, lk, mx⟩ := r
  simp only at HX HN HB F1 F2 F3 F4 ⊢
  cases hn
  · skip
    by_cases z1 : arg < la
    · skip
      have HV := hid (F2.out (by simp) (.inl z1))
      clear F1 F2 F3 F4
      go_enter Tryz.func108, Tryz.ntmps108
      go_wp2
      go_ret
      exact ⟨by rw [HV.out]; rfl, HB.out⟩
    by_cases z2 : ma < arg
    · skip
      have HV := hid (F2.out (by simp) (.inr z2))
      clear F1 F2 F3 F4
      go_enter Tryz.func108, Tryz.ntmps108
      go_wp2
      go_ret
      exact ⟨by rw [HV.out]; rfl, HB.out⟩
    cases he
    · skip
      have HV := hid (F4.out (by simp) (by omega) rfl)
      clear F1 F2 F3 F4
      go_enter Tryz.func108, Tryz.ntmps108
      go_wp2
      go_ret
      exact ⟨by rw [HV.out]; rfl, HB.out⟩
    · skip
      have HV := hid (F3.out (by simp) (by omega) rfl)
      clear F1 F2 F3 F4
      go_enter Tryz.func108, Tryz.ntmps108
      go_wp2_with (first | (go_at_call 111; refine HX.out.mono ?_; rintro e w2 ⟨rfl, hb2⟩))
      go_ret
      exact ⟨by rw [HV.out]; rfl, HB.out.trans (hb2.mono HB.out.size)⟩
  · by_cases hz : nc = 0
    · have b1 : (nc != 0) = false := by simp [hz]
      by_cases z1 : arg < la
      · skip
        have HV := hid (F2.out (by simp [hz]) (.inl z1))
        clear F1 F2 F3 F4
        go_enter Tryz.func108, Tryz.ntmps108
        go_wp2_with (first | (go_at_call 81; refine (HN.out _).mono ?_; rintro e w1 ⟨rfl, hw1⟩; replace hw1 := hw1.symm; subst hw1))
        go_ret
        exact ⟨by rw [HV.out]; rfl, HB.out⟩
      by_cases z2 : ma < arg
      · skip
        have HV := hid (F2.out (by simp [hz]) (.inr z2))
        clear F1 F2 F3 F4
        go_enter Tryz.func108, Tryz.ntmps108
        go_wp2_with (first | (go_at_call 81; refine (HN.out _).mono ?_; rintro e w1 ⟨rfl, hw1⟩; replace hw1 := hw1.symm; subst hw1))
        go_ret
        exact ⟨by rw [HV.out]; rfl, HB.out⟩
      cases he
      · skip
        have HV := hid (F4.out (by simp [hz]) (by omega) rfl)
        clear F1 F2 F3 F4
        go_enter Tryz.func108, Tryz.ntmps108
        go_wp2_with (first | (go_at_call 81; refine (HN.out _).mono ?_; rintro e w1 ⟨rfl, hw1⟩; replace hw1 := hw1.symm; subst hw1))
        go_ret
        exact ⟨by rw [HV.out]; rfl, HB.out⟩
      · skip
        have HV := hid (F3.out (by simp [hz]) (by omega) rfl)
        clear F1 F2 F3 F4
        go_enter Tryz.func108, Tryz.ntmps108
        go_wp2_with (first | (go_at_call 81; refine (HN.out _).mono ?_; rintro e w1 ⟨rfl, hw1⟩; replace hw1 := hw1.symm; subst hw1) | (go_at_call 111; refine HX.out.mono ?_; rintro e w2 ⟨rfl, hb2⟩))
        go_ret
        exact ⟨by rw [HV.out]; rfl, HB.out.trans (hb2.mono HB.out.size)⟩
    · have b1 : (nc != 0) = true := bne_iff_ne.2 hz
      have HV := hid (F1.out rfl hz)
      clear F1 F2 F3 F4
      go_enter Tryz.func108, Tryz.ntmps108
      go_wp2_with (first | (go_at_call 81; refine (HN.out _).mono ?_; rintro e w1 ⟨rfl, hw1⟩; replace hw1 := hw1.symm; subst hw1))
      go_ret
      exact ⟨by rw [HV.out]; rfl, HB.out⟩
end Pf
end Go.Proofs.YtahkpgffoiaeiaaGreatDoor
