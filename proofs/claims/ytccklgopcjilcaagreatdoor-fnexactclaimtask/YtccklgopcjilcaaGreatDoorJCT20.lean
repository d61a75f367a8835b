/- The program's tree of a process. Condition: the table of rules lies as its initialiser lays it. -/
import Derived.Test.YtccklgopcjilcaaGreatDoorJCT18
import Derived.Test.YtccklgopcjilcaaGreatDoorJCT19
namespace Go.Proofs.YtccklgopcjilcaaGreatDoor
open Go.RowKit
set_option linter.unusedVariables false
namespace Pf
open Ex (hid inR eFault typeCode typeVal)
open Nd (NodeD)
open St (StepD)
open Tr (Chain cutTo onPath top nf ElemD)
open Pt (TreeAt Br DeepOn Grew KeptOff Off fcode pfault)
theorem kidsN_lt {ss : List StepD} {n j : Nat} (hn : 0 < n) (h0 : (PJ ss 0).parent < 0) : (kidsN ss n j).length < n := by
  unfold kidsN
  have : List.range n = 0 :: (List.range (n - 1)).map (· + 1) := by
    rw [← List.range_succ_eq_map]; congr 1; omega
  rw [this, List.filter_cons]
  have hb : ((PJ ss 0).parent == (j : Int)) = false := beq_eq_false_iff_ne.2 (by omega)
  rw [hb]
  have := List.length_filter_le (fun i => (PJ ss i).parent == (j : Int)) ((List.range (n - 1)).map (· + 1))
  simp only [List.length_map, List.length_range] at this
  simp only [Bool.false_eq_true, if_false]
  omega
/-- The tree is that of the steps, as far as n. -/
structure TreeIs (w : World) (ss : List StepD) (n : Nat) (T : Nat → Br) : Prop where
  val : ∀ j (h : j < ss.length), j < n → (T j).kind = ss[j].kind ∧ (T j).par = ss[j].parent ∧ (T j).name = ss[j].name ∧ (T j).arg = ss[j].arg
  vc : ∀ j (h : j < ss.length), j < n → Nd.At w 0 (T j).vc ss[j].cond
  ve : ∀ j (h : j < ss.length), j < n → Nd.At w 0 (T j).ve ss[j].expr
  deep : ∀ j, j < n → (T j).deep = (path ss (j + 1)).length
  kids : ∀ j, j < n → (T j).kids = kidsN ss n j
theorem TreeIs.start (w : World) (ss : List StepD) (T : Nat → Br) : TreeIs w ss 0 T := ⟨fun j _ h => by omega, fun j _ h => by omega, fun j _ h => by omega, fun j h => by omega, fun j h => by omega⟩
theorem TreeIs.grew {w : World} {ss : List StepD} {n : Nat} {T T' : Nat → Br} {vc ve : Value} (h : TreeIs w ss n T) (hn : n < ss.length) (h1 : firstC (oneC ss) n = 0)
    (hg : Grew T T' n ⟨ss[n].kind, ss[n].parent, ss[n].name, ss[n].arg, vc, ve, (path ss (n + 1)).length, .slice none 0 0, []⟩) (hvc : Nd.At w 0 vc ss[n].cond) (hve : Nd.At w 0 ve ss[n].expr) (hlow : ss[n].parent < n) : TreeIs w ss (n + 1) T' := by
  have e1 : (⟨ss[n].kind, ss[n].parent, ss[n].name, ss[n].arg, vc, ve, (path ss (n + 1)).length, .slice none 0 0, []⟩ : Br).par = ss[n].parent := rfl
  refine ⟨fun j hj h2 => ?_, fun j hj h2 => ?_, fun j hj h2 => ?_, fun j h2 => ?_, fun j h2 => ?_⟩
  · by_cases e : j = n
    · subst e; rw [hg.new]; exact ⟨rfl, rfl, rfl, rfl⟩
    · rw [hg.old j (by omega)]; exact h.val j hj (by omega)
  · by_cases e : j = n
    · subst e; rw [hg.new]; exact hvc
    · rw [hg.old j (by omega)]; exact h.vc j hj (by omega)
  · by_cases e : j = n
    · subst e; rw [hg.new]; exact hve
    · rw [hg.old j (by omega)]; exact h.ve j hj (by omega)
  · by_cases e : j = n
    · subst e; rw [hg.new]
    · rw [hg.old j (by omega)]; exact h.deep j (by omega)
  · rw [kidsN_succ, PJ_eq hn]
    by_cases e : j = n
    · subst e
      rw [hg.new, if_neg (by omega), List.append_nil]
      symm
      unfold kidsN
      rw [List.filter_eq_nil_iff]
      intro i hi
      have hi' : i < j := by simpa using hi
      have := (par_lt (first_all h1 hi')).1
      simp only [beq_iff_eq]
      omega
    · rw [hg.old j (by omega)]
      show (T j).kids ++ (if (j : Int) = ss[n].parent then [n] else []) = _
      rw [h.kids j (by omega)]
      congr 1
      by_cases e2 : (j : Int) = ss[n].parent
      · rw [if_pos e2, if_pos e2.symm]
      · rw [if_neg e2, if_neg (fun e3 => e2 e3.symm)]
theorem f_par {ss : List StepD} {i : Nat} {p : Int} (h : parOk i p = false) : fcode i (path ss i) p = 3 := by
  have hp := par_not.1 h
  have : pfault i (path ss i) p = 3 := by
    unfold pfault
    rcases hp with ⟨h0, hp⟩ | ⟨h0, hp⟩
    · rw [if_pos h0, if_neg hp]
    · rw [if_neg (by omega), if_neg hp]
  unfold fcode
  rw [this]
  rfl
theorem par_yes {i : Nat} {p : Int} (h : parOk i p = true) : ¬ ((i = 0 ∧ p ≠ -1) ∨ (0 < i ∧ ¬ (0 ≤ p ∧ p < i))) := fun e => by rw [par_not.2 e] at h; cases h
theorem f_line {ss : List StepD} {i : Nat} {p : Int} (h : parOk i p = true) (hf : 0 < i ∧ onPath p (path ss i) = false) : fcode i (path ss i) p = 1 := by
  have hp := par_yes h
  have : pfault i (path ss i) p = 1 := by
    unfold pfault
    rw [if_neg (by omega), if_pos (Classical.byContradiction (fun e => hp (.inr ⟨hf.1, e⟩))), hf.2]
    rfl
  unfold fcode
  rw [this]
  rfl
theorem f_else {ss : List StepD} {i : Nat} {p : Int} (h : parOk i p = true) (hf : ¬ (0 < i ∧ onPath p (path ss i) = false)) : fcode i (path ss i) p = if 7 < (cutTo p (path ss i)).length + 1 then 2 else 0 := by
  have hp := par_yes h
  have : pfault i (path ss i) p = 0 := by
    unfold pfault
    by_cases h0 : i = 0
    · rw [if_pos h0, if_pos (Classical.byContradiction (fun e => hp (.inl ⟨h0, e⟩)))]
    · rw [if_neg h0, if_pos (Classical.byContradiction (fun e => hp (.inr ⟨by omega, e⟩)))]
      cases hb : onPath p (path ss i)
      · exact absurd ⟨by omega, hb⟩ hf
      · rfl
  unfold fcode
  rw [this]
  rfl
/-- How far the program has come. -/
structure Built (w wr : World) (ss : List StepD) (i : Nat) (v : Value) (T : Nat → Br) : Prop where
  seen : firstC (oneC ss) i = 0
  tree : TreeAt wr w.heap.size v i T
  is : TreeIs w ss i T
  deep : DeepOn T (path ss i)
  below : Below w.heap.size w wr
theorem Built.lens {w wr : World} {ss : List StepD} {i : Nat} {v : Value} {T : Nat → Br} (h : Built w wr ss i v T) : ∀ j, j < i → (T j).kids.length < i := fun j hj => by
  rw [h.is.kids j hj]
  exact kidsN_lt (by omega) (by have := (par_lt (first_all h.seen (i := 0) (by omega))).1; simpa using this)
def fault1 (ss : List StepD) : Int := if ss.length < 1 ∨ 24 < ss.length then 2 else firstC (oneC ss) ss.length
theorem f1_many {ss : List StepD} (h : ss.length < 1 ∨ 24 < ss.length) : fault1 ss = 2 := by unfold fault1; rw [if_pos h]
theorem f1_bad {ss : List StepD} (h : ¬ (ss.length < 1 ∨ 24 < ss.length)) {i : Nat} (hi : i < ss.length) (h1 : firstC (oneC ss) i = 0) (h2 : oneC ss i ≠ 0) : fault1 ss = oneC ss i := by unfold fault1; rw [if_neg h, first_bad hi h1 h2]
theorem f1_ok {ss : List StepD} (h : ¬ (ss.length < 1 ∨ 24 < ss.length)) (h1 : firstC (oneC ss) ss.length = 0) : fault1 ss = 0 := by unfold fault1; rw [if_neg h, h1]
theorem off_cell {w w' : World} {v x : Value} {n b o : Nat} {T : Nat → Br} (h : KeptOff w w' v n T) (ho : Off v n T b) (hc : w.cell? ⟨b, o, none⟩ = some x) : w'.cell? ⟨b, o, none⟩ = some x := by
  have hb := Nd.lt_of_cell hc
  simp only [World.cell?] at hc ⊢
  rw [h.block b hb ho]
  exact hc
theorem all_cells {w w' : World} {b : Nat} (h : ∀ o x, w.cell? ⟨b, o, none⟩ = some x → w'.cell? ⟨b, o, none⟩ = some x) {x0 x1 x2 x3 x4 x5 : Value} (hc : w.cell? ⟨b, 0, none⟩ = some x0 ∧ w.cell? ⟨b, 1, none⟩ = some x1 ∧ w.cell? ⟨b, 2, none⟩ = some x2 ∧ w.cell? ⟨b, 3, none⟩ = some x3 ∧ w.cell? ⟨b, 4, none⟩ = some x4 ∧ w.cell? ⟨b, 5, none⟩ = some x5) :
    w'.cell? ⟨b, 0, none⟩ = some x0 ∧ w'.cell? ⟨b, 1, none⟩ = some x1 ∧ w'.cell? ⟨b, 2, none⟩ = some x2 ∧ w'.cell? ⟨b, 3, none⟩ = some x3 ∧ w'.cell? ⟨b, 4, none⟩ = some x4 ∧ w'.cell? ⟨b, 5, none⟩ = some x5 := ⟨h _ _ hc.1, h _ _ hc.2.1, h _ _ hc.2.2.1, h _ _ hc.2.2.2.1, h _ _ hc.2.2.2.2.1, h _ _ hc.2.2.2.2.2⟩
theorem all_cells7 {w w' : World} {b : Nat} (h : ∀ o x, w.cell? ⟨b, o, none⟩ = some x → w'.cell? ⟨b, o, none⟩ = some x) {x0 x1 x2 x3 x4 x5 x6 : Value} (hc : w.cell? ⟨b, 0, none⟩ = some x0 ∧ w.cell? ⟨b, 1, none⟩ = some x1 ∧ w.cell? ⟨b, 2, none⟩ = some x2 ∧ w.cell? ⟨b, 3, none⟩ = some x3 ∧ w.cell? ⟨b, 4, none⟩ = some x4 ∧ w.cell? ⟨b, 5, none⟩ = some x5 ∧ w.cell? ⟨b, 6, none⟩ = some x6) :
    w'.cell? ⟨b, 0, none⟩ = some x0 ∧ w'.cell? ⟨b, 1, none⟩ = some x1 ∧ w'.cell? ⟨b, 2, none⟩ = some x2 ∧ w'.cell? ⟨b, 3, none⟩ = some x3 ∧ w'.cell? ⟨b, 4, none⟩ = some x4 ∧ w'.cell? ⟨b, 5, none⟩ = some x5 ∧ w'.cell? ⟨b, 6, none⟩ = some x6 := ⟨h _ _ hc.1, h _ _ hc.2.1, h _ _ hc.2.2.1, h _ _ hc.2.2.2.1, h _ _ hc.2.2.2.2.1, h _ _ hc.2.2.2.2.2.1, h _ _ hc.2.2.2.2.2.2⟩
theorem blw_cell {B : Nat} {W w : World} (h : Below B W w) {b : Nat} (hb : b < B) : ∀ o x, W.cell? ⟨b, o, none⟩ = some x → w.cell? ⟨b, o, none⟩ = some x := fun o x hx => (h.cell (p := ⟨b, o, none⟩) hb).trans hx
set_option maxRecDepth 100000 in
set_option maxHeartbeats 16000000 in
theorem stepTree (ss : List StepD) (v : Value) (w : World) (hsm : St.Small 1048576 ss) (ha : St.At w 0 v ss) (hr : Rul w) :
    Calls Tryz.prog 159 #[v] w fun e w' => (∃ v', e = .returned (.tuple #[v', .int .i64 (fault1 ss)]) ∧ (fault1 ss ≠ 0 → v' = .slice none 0 0) ∧
      (fault1 ss = 0 → ∃ T, TreeAt w' w.heap.size v' ss.length T ∧ TreeIs w ss ss.length T)) ∧ Below w.heap.size w w' := by
  obtain ⟨a, cap, rfl⟩ := ha.slice
  have HA := hid ha
  have HSM := hid hsm
  have HR := hid hr
  have hgl := hr.lt
  have hlen := hsm.1
  clear ha hsm hr
  by_cases z1 : ss.length < 1
  · have HV := hid (f1_many (.inl z1))
    have q : (ss.length : Int) < 1 := by omega
    go_enter Tryz.func159, Tryz.ntmps159
    go_wp2
    go_ret2
    exact ⟨⟨_, by rw [HV.out]; rfl, fun _ => rfl, fun e => by rw [HV.out] at e; omega⟩, Below.refl _ _⟩
  by_cases z2 : 24 < ss.length
  · have HV := hid (f1_many (.inr z2))
    have q : ¬ (ss.length : Int) < 1 := by omega
    have q' : (24 : Int) < (ss.length : Int) := by omega
    go_enter Tryz.func159, Tryz.ntmps159
    go_wp2
    go_ret2
    exact ⟨⟨_, by rw [HV.out]; rfl, fun _ => rfl, fun e => by rw [HV.out] at e; omega⟩, Below.refl _ _⟩
  have HZ : Hid (¬ (ss.length < 1 ∨ 24 < ss.length)) := hid (by omega)
  have q : ¬ (ss.length : Int) < 1 := by omega
  have q' : ¬ (24 : Int) < (ss.length : Int) := by omega
  have hl : ss.length ≤ 24 := by omega
  clear z1 z2
  go_enter Tryz.func159, Tryz.ntmps159
  go_wp2
  go_loopw [4, 5, 7, 8, 9, 20] (fun t _ _ _ _ x wr => ∃ (i : Nat) (T : Nat → Br), x = .int .i64 i ∧ i ≤ ss.length ∧ (∃ a4 c4, t = .slice a4 i c4) ∧ Hid (Built w wr ss i t T)) (fun _ _ _ _ _ x _ => ss.length - (intOf x).toNat)
  case atStart => exact ⟨0, fun _ => ⟨0, 0, ByteArray.empty, 0, .slice none 0 0, .slice none 0 0, 0, .slice none 0 0, []⟩, rfl, Nat.zero_le _, ⟨_, _, rfl⟩, hid ⟨rfl, TreeAt.nil _ _ _, TreeIs.start _ _ _, trivial, Below.refl _ _⟩⟩
  case round =>
    obtain ⟨i, T, rfl, hil, ⟨a4, c4, rfl⟩, HB⟩ := hrel
    have hZ := HB.out.below.size
    by_cases hlt : i < ss.length
    · obtain ⟨g, o, vc, ve, rfl, hg0, d0, d1, d2, d3, d4, d5, hvc, hve⟩ := HA.out.at hlt
      obtain ⟨ac, cc, rfl⟩ := hvc.slice
      obtain ⟨ae, ce, rfl⟩ := hve.slice
      have c0 := (HB.out.below.cell (p := ⟨g, o + i * 6, none⟩) hg0).trans d0
      have c1 := (HB.out.below.cell (p := ⟨g, o + i * 6 + 1, none⟩) hg0).trans d1
      have c2 := (HB.out.below.cell (p := ⟨g, o + i * 6 + 2, none⟩) hg0).trans d2
      have c3 := (HB.out.below.cell (p := ⟨g, o + i * 6 + 3, none⟩) hg0).trans d3
      have c4' := (HB.out.below.cell (p := ⟨g, o + i * 6 + 4, none⟩) hg0).trans d4
      have c5 := (HB.out.below.cell (p := ⟨g, o + i * 6 + 5, none⟩) hg0).trans d5
      have hg : g < wr.heap.size := Nat.lt_of_lt_of_le hg0 hZ
      have HVC := hid hvc
      have HVE := hid hve
      clear d0 d1 d2 d3 d4 d5 hvc hve
      have q1 : (i : Int) < (ss.length : Int) := by omega
      have hsi := HSM.out.at hlt
      have s1 := hsi.1
      have s2 := hsi.2.1
      have s3 := hsi.2.2
      clear hsi
      have hpj : PJ ss i = ss[i] := PJ_eq hlt
      have HF1 := hid (one_form (ss := ss) (i := i))
      have HF2 := hid (one_par (ss := ss) (i := i))
      have HF3 := hid (one_line (ss := ss) (i := i))
      have HF4 := hid (one_many (ss := ss) (i := i))
      have HF5 := hid (one_part (ss := ss) (i := i))
      rw [hpj] at HF1 HF2 HF3 HF4 HF5
      have HBad := hid (fun (h : oneC ss i ≠ 0) => f1_bad HZ.out hlt HB.out.seen h)
      have hxA : Below wr.heap.size wr (wr.alloc (.cells #[.int .i64 ss[i].kind, .int .i64 ss[i].parent, .string ss[i].name, .int .i64 ss[i].arg, .slice ac ss[i].cond.length cc, .slice ae ss[i].expr.length ce] 164)) := (Below.refl _ wr).alloc (Nat.le_refl _) _
      have HxA := hid hxA
      have HBA : Hid (Below w.heap.size w (wr.alloc (.cells #[.int .i64 ss[i].kind, .int .i64 ss[i].parent, .string ss[i].name, .int .i64 ss[i].arg, .slice ac ss[i].cond.length cc, .slice ae ss[i].expr.length ce] 164))) := hid (HB.out.below.trans (hxA.mono hZ))
      have HRA := hid (HR.out.below HBA.out (by omega))
      have kA : (wr.alloc (.cells #[.int .i64 ss[i].kind, .int .i64 ss[i].parent, .string ss[i].name, .int .i64 ss[i].arg, .slice ac ss[i].cond.length cc, .slice ae ss[i].expr.length ce] 164)).cell? ⟨wr.heap.size, 0, none⟩ = some (.int .i64 ss[i].kind) ∧ (wr.alloc (.cells #[.int .i64 ss[i].kind, .int .i64 ss[i].parent, .string ss[i].name, .int .i64 ss[i].arg, .slice ac ss[i].cond.length cc, .slice ae ss[i].expr.length ce] 164)).cell? ⟨wr.heap.size, 1, none⟩ = some (.int .i64 ss[i].parent) ∧ (wr.alloc (.cells #[.int .i64 ss[i].kind, .int .i64 ss[i].parent, .string ss[i].name, .int .i64 ss[i].arg, .slice ac ss[i].cond.length cc, .slice ae ss[i].expr.length ce] 164)).cell? ⟨wr.heap.size, 2, none⟩ = some (.string ss[i].name) ∧ (wr.alloc (.cells #[.int .i64 ss[i].kind, .int .i64 ss[i].parent, .string ss[i].name, .int .i64 ss[i].arg, .slice ac ss[i].cond.length cc, .slice ae ss[i].expr.length ce] 164)).cell? ⟨wr.heap.size, 3, none⟩ = some (.int .i64 ss[i].arg) ∧ (wr.alloc (.cells #[.int .i64 ss[i].kind, .int .i64 ss[i].parent, .string ss[i].name, .int .i64 ss[i].arg, .slice ac ss[i].cond.length cc, .slice ae ss[i].expr.length ce] 164)).cell? ⟨wr.heap.size, 4, none⟩ = some (.slice ac ss[i].cond.length cc) ∧ (wr.alloc (.cells #[.int .i64 ss[i].kind, .int .i64 ss[i].parent, .string ss[i].name, .int .i64 ss[i].arg, .slice ac ss[i].cond.length cc, .slice ae ss[i].expr.length ce] 164)).cell? ⟨wr.heap.size, 5, none⟩ = some (.slice ae ss[i].expr.length ce) := ⟨by go_simp, by go_simp, by go_simp, by go_simp, by go_simp, by go_simp⟩
      have KA := hid kA
      have hzA : (wr.alloc (.cells #[.int .i64 ss[i].kind, .int .i64 ss[i].parent, .string ss[i].name, .int .i64 ss[i].arg, .slice ac ss[i].cond.length cc, .slice ae ss[i].expr.length ce] 164)).heap.size = wr.heap.size + 1 := by simp
      clear hxA kA
      go_wp2_with fail
      generalize wr.alloc (.cells #[.int .i64 ss[i].kind, .int .i64 ss[i].parent, .string ss[i].name, .int .i64 ss[i].arg, .slice ac ss[i].cond.length cc, .slice ae ss[i].expr.length ce] 164) = wA at *
      cases hk : inR ss[i].kind 1 8
      · have HV := hid (HF1.out (by simp [formOk, hk]))
        have HV2 := hid (HBad.out (by rw [HV.out]; decide))
        refine (ruleBad _ _ hk HRA.out).mono ?_
        rintro e w1 ⟨rfl, hb1⟩
        have hB1 := HBA.out.trans (hb1.mono HBA.out.size)
        clear hk
        go_wp2
        go_ret2
        exact ⟨⟨_, by rw [HV2.out, HV.out]; rfl, fun _ => rfl, fun e => by rw [HV2.out, HV.out] at e; omega⟩, hB1.alloc hB1.size _⟩
      refine (ruleOk _ _ hk HRA.out).mono ?_
      rintro e w1 ⟨rfl, hb1⟩
      have HAL := hid (allows_eq (s := ss[i]) hk)
      have HPA := hid (parts_eq (s := ss[i]) hk)
      generalize hrr : ruleD ss[i].kind = r at *
      unfold RuleD.row
      have HB1 := hid (HBA.out.trans (hb1.mono HBA.out.size))
      have HXB := hid (HxA.out.trans (hb1.mono HxA.out.size))
      have KA1 := hid (all_cells (blw_cell hb1 (by omega)) KA.out)
      have hz1 : wr.heap.size + 1 ≤ w1.heap.size := by have := hb1.size; omega
      have hxB : Below w1.heap.size w1 (w1.alloc (.cells #[.string r.word, .bool r.hn, .bool r.he, .int .i64 r.la, .int .i64 r.ma, .int .i64 r.lk, .int .i64 r.mx] 255)) := (Below.refl _ w1).alloc (Nat.le_refl _) _
      have HB2 : Hid (Below w.heap.size w (w1.alloc (.cells #[.string r.word, .bool r.hn, .bool r.he, .int .i64 r.la, .int .i64 r.ma, .int .i64 r.lk, .int .i64 r.mx] 255))) := hid (HB1.out.trans (hxB.mono HB1.out.size))
      have HX2 : Hid (Below wr.heap.size wr (w1.alloc (.cells #[.string r.word, .bool r.hn, .bool r.he, .int .i64 r.la, .int .i64 r.ma, .int .i64 r.lk, .int .i64 r.mx] 255))) := hid (HXB.out.trans (hxB.mono HXB.out.size))
      have kb := all_cells (blw_cell hxB (by omega)) KA1.out
      obtain ⟨b0, b1, b2, b3, b4, b5⟩ := kb
      have kr : (w1.alloc (.cells #[.string r.word, .bool r.hn, .bool r.he, .int .i64 r.la, .int .i64 r.ma, .int .i64 r.lk, .int .i64 r.mx] 255)).cell? ⟨w1.heap.size, 0, none⟩ = some (.string r.word) ∧ (w1.alloc (.cells #[.string r.word, .bool r.hn, .bool r.he, .int .i64 r.la, .int .i64 r.ma, .int .i64 r.lk, .int .i64 r.mx] 255)).cell? ⟨w1.heap.size, 1, none⟩ = some (.bool r.hn) ∧ (w1.alloc (.cells #[.string r.word, .bool r.hn, .bool r.he, .int .i64 r.la, .int .i64 r.ma, .int .i64 r.lk, .int .i64 r.mx] 255)).cell? ⟨w1.heap.size, 2, none⟩ = some (.bool r.he) ∧ (w1.alloc (.cells #[.string r.word, .bool r.hn, .bool r.he, .int .i64 r.la, .int .i64 r.ma, .int .i64 r.lk, .int .i64 r.mx] 255)).cell? ⟨w1.heap.size, 3, none⟩ = some (.int .i64 r.la) ∧ (w1.alloc (.cells #[.string r.word, .bool r.hn, .bool r.he, .int .i64 r.la, .int .i64 r.ma, .int .i64 r.lk, .int .i64 r.mx] 255)).cell? ⟨w1.heap.size, 4, none⟩ = some (.int .i64 r.ma) ∧ (w1.alloc (.cells #[.string r.word, .bool r.hn, .bool r.he, .int .i64 r.la, .int .i64 r.ma, .int .i64 r.lk, .int .i64 r.mx] 255)).cell? ⟨w1.heap.size, 5, none⟩ = some (.int .i64 r.lk) ∧ (w1.alloc (.cells #[.string r.word, .bool r.hn, .bool r.he, .int .i64 r.la, .int .i64 r.ma, .int .i64 r.lk, .int .i64 r.mx] 255)).cell? ⟨w1.heap.size, 6, none⟩ = some (.int .i64 r.mx) := ⟨by go_simp, by go_simp, by go_simp, by go_simp, by go_simp, by go_simp, by go_simp⟩
      have KR := hid kr
      have KB : Hid _ := hid (And.intro b0 (And.intro b1 (And.intro b2 (And.intro b3 (And.intro b4 b5)))))
      have hz2 : (w1.alloc (.cells #[.string r.word, .bool r.hn, .bool r.he, .int .i64 r.la, .int .i64 r.ma, .int .i64 r.lk, .int .i64 r.mx] 255)).heap.size = w1.heap.size + 1 := by simp
      have hlw : wr.heap.size < (w1.alloc (.cells #[.string r.word, .bool r.hn, .bool r.he, .int .i64 r.la, .int .i64 r.ma, .int .i64 r.lk, .int .i64 r.mx] 255)).heap.size := by omega
      clear hxB kr hb1 KA1 HB1 HXB HBA HxA KA HRA hrr
      go_wp2_with fail
      generalize w1.alloc (.cells #[.string r.word, .bool r.hn, .bool r.he, .int .i64 r.la, .int .i64 r.ma, .int .i64 r.lk, .int .i64 r.mx] 255) = wB at *
      refine (allows r ss[i] _ ae ss[i].expr.length ce wB rfl (by omega) ⟨_, _, _, rfl⟩).mono ?_
      rintro e w2 ⟨rfl, hb2⟩
      rw [HAL.out]
      have HB3 := hid (HB2.out.trans (hb2.mono HB2.out.size))
      have HX3 := hid (HX2.out.trans (hb2.mono HX2.out.size))
      have KB3 := hid (all_cells (blw_cell hb2 hlw) KB.out)
      have KR3 := hid (all_cells7 (blw_cell hb2 (by omega)) KR.out)
      have hz3 : w1.heap.size + 1 ≤ w2.heap.size := by have := hb2.size; omega
      have hlw3 : wr.heap.size < w2.heap.size := by omega
      have hlr3 : w1.heap.size < w2.heap.size := by omega
      clear hb2 KB KR HB2 HX2 b0 b1 b2 b3 b4 b5 HAL
      cases hbr : bare ss[i]
      · have HV := hid (HF1.out (by simp [formOk, hbr]))
        have HV2 := hid (HBad.out (by rw [HV.out]; decide))
        clear hbr hk
        go_wp2
        go_ret2
        exact ⟨⟨_, by rw [HV2.out, HV.out]; rfl, fun _ => rfl, fun e => by rw [HV2.out, HV.out] at e; omega⟩, HB3.out⟩
      have hfm : formOk ss[i] = true := by simp [formOk, hk, hbr]
      have HPB := hid (HPA.out hbr)
      have HF2x := hid (HF2.out hfm)
      have HF3x := hid (HF3.out hfm)
      have HF4x := hid (HF4.out hfm)
      have HF5x := hid (HF5.out hfm)
      have W := walked (by omega) HB.out.seen
      have HFT := hid (Pt.fillTree (es ss) T (path ss i) w.heap.size (.slice a4 i c4) i ss[i].kind ss[i].name ss[i].arg ss[i].parent ac ss[i].cond.length cc ae ss[i].expr.length ce w2 (by omega) (by rw [es_len]; exact hil) (by have := HB3.out.size; omega) (HB.out.tree.below HX3.out) (fun j h hj => by
        have h' : j < ss.length := by rw [es_len] at h; exact h
        rw [es_par h']
        exact (HB.out.is.val j h' hj).2.1) W.chain W.first HB.out.deep W.deep HB.out.lens)
      have HT2 := hid (HB.out.tree.below HX3.out)
      have HOS := hid (Pt.off_new HB.out.tree (b := wr.heap.size) (Nat.le_refl _))
      have HOR := hid (Pt.off_new HB.out.tree (b := w1.heap.size) (by omega))
      have hwz : w.heap.size ≤ w2.heap.size := HB3.out.size
      obtain ⟨b0, b1, b2, b3, b4, b5⟩ := KB3.out
      have hpc : (path ss (i + 1)).length = (cutTo ss[i].parent (path ss i)).length + 1 := by
        show (i :: cutTo (PJ ss i).parent (path ss i)).length = _
        rw [hpj, List.length_cons]
      have HPC := hid hpc
      clear hfm hk hbr HF1 HF2 HF3 HF4 HF5 HPA W hpc
      cases hp : parOk i ss[i].parent
      · have HV := hid (HF2x.out hp)
        have HV2 := hid (HBad.out (by rw [HV.out]; decide))
        have HC := hid (f_par (ss := ss) hp)
        clear hp
        go_wp2_with (go_at_call 193; refine HFT.out.mono ?_; rintro e w3 ⟨⟨v', rfl, hv1, _⟩, hk3⟩; obtain rfl := hv1 (by rw [HC.out]; decide); rw [HC.out])
        go_ret2
        exact ⟨⟨_, by rw [HV2.out, HV.out]; rfl, fun _ => rfl, fun e => by rw [HV2.out, HV.out] at e; omega⟩, HB3.out.trans (hk3.below HT2.out hwz)⟩
      by_cases hf : 0 < i ∧ onPath ss[i].parent (path ss i) = false
      · have HV := hid (HF3x.out hp hf)
        have HV2 := hid (HBad.out (by rw [HV.out]; decide))
        have HC := hid (f_line hp hf)
        clear hp hf
        go_wp2_with (go_at_call 193; refine HFT.out.mono ?_; rintro e w3 ⟨⟨v', rfl, hv1, _⟩, hk3⟩; obtain rfl := hv1 (by rw [HC.out]; decide); rw [HC.out])
        go_ret2
        exact ⟨⟨_, by rw [HV2.out, HV.out]; rfl, fun _ => rfl, fun e => by rw [HV2.out, HV.out] at e; omega⟩, HB3.out.trans (hk3.below HT2.out hwz)⟩
      have hfe := f_else hp hf
      rw [← HPC.out] at hfe
      by_cases h9 : 7 < (path ss (i + 1)).length
      · have HV := hid (HF4x.out hp hf h9)
        have HV2 := hid (HBad.out (by rw [HV.out]; decide))
        have HC : Hid (fcode i (path ss i) ss[i].parent = 2) := hid (by rw [hfe, if_pos h9])
        clear hp hf hfe h9
        go_wp2_with (go_at_call 193; refine HFT.out.mono ?_; rintro e w3 ⟨⟨v', rfl, hv1, _⟩, hk3⟩; obtain rfl := hv1 (by rw [HC.out]; decide); rw [HC.out])
        go_ret2
        exact ⟨⟨_, by rw [HV2.out, HV.out]; rfl, fun _ => rfl, fun e => by rw [HV2.out, HV.out] at e; omega⟩, HB3.out.trans (hk3.below HT2.out hwz)⟩
      have HC : Hid (fcode i (path ss i) ss[i].parent = 0) := hid (by rw [hfe, if_neg h9])
      have HONE := hid ((HF5x.out hp hf h9).trans HPB.out.symm)
      have HLW : Hid (ss[i].parent < i) := hid (by
        have h8 := par_yes hp
        rcases Nat.eq_zero_or_pos i with h0 | h0
        · have : ¬ ss[i].parent ≠ -1 := fun e => h8 (.inl ⟨h0, e⟩)
          omega
        · have : ¬ ¬ (0 ≤ ss[i].parent ∧ ss[i].parent < i) := fun e => h8 (.inr ⟨h0, e⟩)
          omega)
      clear hp hf hfe h9 HF2x HF3x HF4x HF5x HPB
      go_wp2_with fail
      refine HFT.out.mono ?_
      rintro e w3 ⟨⟨v', rfl, _, hv2⟩, hk3⟩
      obtain ⟨T', hT', hG'⟩ := hv2 HC.out
      rw [HC.out]
      obtain ⟨a5, c5', rfl⟩ := hT'.slice
      have HT' := hid hT'
      have HG' := hid hG'
      have HB4 := hid (HB3.out.trans (hk3.below HT2.out hwz))
      have ks := all_cells (fun o x hx => off_cell hk3 HOS.out hx) KB3.out
      have kr := all_cells7 (fun o x hx => off_cell hk3 HOR.out hx) KR3.out
      obtain ⟨m0, m1, m2, m3, m4, m5⟩ := ks
      obtain ⟨n0, n1, n2, n3, n4, n5, n6⟩ := kr
      have hz4 : w2.heap.size ≤ w3.heap.size := hk3.size
      have l1 : wr.heap.size < w3.heap.size := by omega
      have l2 : w1.heap.size < w3.heap.size := by omega
      have HPF := hid (partsFault r ss[i] (.slice ac ss[i].cond.length cc) ae ce 0 w3 (by omega) (by unfold maxLen; omega) ⟨_, _, _, rfl⟩ (HVE.out.below HB4.out))
      have HBad2 : Hid (partsR r ss[i] ≠ 0 → fault1 ss = partsR r ss[i]) := hid (fun h => by rw [HBad.out (by rw [HONE.out]; exact h), HONE.out])
      have HNX2 : Hid (partsR r ss[i] = 0 → firstC (oneC ss) (i + 1) = 0) := hid (fun h => first_next HB.out.seen (by rw [HONE.out]; exact h))
      clear hT' hG' hv2 hk3 HFT b0 b1 b2 b3 b4 b5 KB3 KR3 HBad HONE
      generalize partsR r ss[i] = pr at *
      go_wp2_with fail
      refine HPF.out.mono ?_
      rintro e w4 ⟨rfl, hb4⟩
      have HB5 := hid (HB4.out.trans (hb4.mono HB4.out.size))
      by_cases hz : pr = 0
      · have t1 : (pr != 0) = false := by simp [hz]
        have HNX := hid (HNX2.out hz)
        clear hz HPF
        go_wp2
        have hW := walked (by omega) HNX.out
        have hG := HG'.out
        rw [← HPC.out] at hG
        have hdp : DeepOn T' (path ss (i + 1)) := by
          have hch := hW.chain
          have hpe : path ss (i + 1) = i :: cutTo ss[i].parent (path ss i) := by
            show i :: cutTo (PJ ss i).parent (path ss i) = _
            rw [hpj]
          rw [hpe] at hch ⊢
          exact ⟨by rw [HG'.out.new], Pt.deep_congr (fun j hj => by rw [HG'.out.old j hj]) (Tr.chain_tail hch) (Tr.top_lt hch) (Pt.deep_cut HB.out.deep)⟩
        exact ⟨⟨i + 1, T', by simp, by omega, ⟨_, _, rfl⟩, hid ⟨HNX.out, HT'.out.below hb4, HB.out.is.grew hlt HB.out.seen hG HVC.out HVE.out HLW.out, hdp, HB5.out⟩⟩, by simp [intOf]; omega⟩
      · have t1 : (pr != 0) = true := bne_iff_ne.2 hz
        have HV := hid (HBad2.out hz)
        have HNZ := hid hz
        clear hz HPF
        go_wp2
        go_ret2
        exact ⟨⟨_, by rw [HV.out]; rfl, fun _ => rfl, fun e => absurd (by rw [← HV.out]; exact e) HNZ.out⟩, HB5.out⟩
    · have hin : i = ss.length := by omega
      have HI := hid hin
      have HV : Hid (fault1 ss = 0) := hid (f1_ok HZ.out (by rw [← hin]; exact HB.out.seen))
      clear hin
      go_wp2
      go_ret2
      refine ⟨⟨_, by rw [HV.out]; rfl, fun e => absurd HV.out e, fun _ => ⟨T, ?_, ?_⟩⟩, HB.out.below⟩
      · show TreeAt wr w.heap.size (.slice a4 i c4) ss.length T
        rw [← HI.out]
        exact HB.out.tree
      · rw [← HI.out]
        exact HB.out.is
end Pf
end Go.Proofs.YtccklgopcjilcaaGreatDoor
