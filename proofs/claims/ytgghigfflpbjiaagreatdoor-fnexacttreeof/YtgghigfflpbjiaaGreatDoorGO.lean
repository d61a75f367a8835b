/- Laid together: PiC, PiD, PiE, PqA. -/
import Derived.Test.YtgghigfflpbjiaaGreatDoorGN
import Derived.Test.YtgghigfflpbjiaaGreatDoorGF
import Derived.Laws.OwnMore
import Derived.Test.YtgghigfflpbjiaaGreatDoorGJ
/- The program's tree of a process. Condition: the table of rules lies as its initialiser lays it. -/
namespace Go.Proofs.YtgghigfflpbjiaaGreatDoor
open Go.RowKit
set_option linter.unusedVariables false
namespace Pf
open Ex (hid inR eFault typeCode typeVal)
open Nd (NodeD)
open St (StepD)
open Tr (Chain cutTo onPath top nf ElemD)
open Pt (TreeAt Br DeepOn Grew KeptOff Off fcode pfault)
theorem kidsN_lt {ss : List StepD} {n j : Nat} (hn : 0 < n) (h0 : (PJ ss 0).parent < 0) : (kidsN ss n j).length < n := by
  unfold kidsN
  have : List.range n = 0 :: (List.range (n - 1)).map (· + 1) := by
    rw [← List.range_succ_eq_map]; congr 1; omega
  rw [this, List.filter_cons]
  have hb : ((PJ ss 0).parent == (j : Int)) = false := beq_eq_false_iff_ne.2 (by omega)
  rw [hb]
  have := List.length_filter_le (fun i => (PJ ss i).parent == (j : Int)) ((List.range (n - 1)).map (· + 1))
  simp only [List.length_map, List.length_range] at this
  simp only [Bool.false_eq_true, if_false]
  omega
/-- The tree is that of the steps, as far as n. -/
structure TreeIs (w : World) (ss : List StepD) (n : Nat) (T : Nat → Br) : Prop where
  val : ∀ j (h : j < ss.length), j < n → (T j).kind = ss[j].kind ∧ (T j).par = ss[j].parent ∧ (T j).name = ss[j].name ∧ (T j).arg = ss[j].arg
  vc : ∀ j (h : j < ss.length), j < n → Nd.At w 0 (T j).vc ss[j].cond
  ve : ∀ j (h : j < ss.length), j < n → Nd.At w 0 (T j).ve ss[j].expr
  deep : ∀ j, j < n → (T j).deep = (path ss (j + 1)).length
  kids : ∀ j, j < n → (T j).kids = kidsN ss n j
theorem TreeIs.start (w : World) (ss : List StepD) (T : Nat → Br) : TreeIs w ss 0 T := ⟨fun j _ h => by omega, fun j _ h => by omega, fun j _ h => by omega, fun j h => by omega, fun j h => by omega⟩
theorem TreeIs.grew {w : World} {ss : List StepD} {n : Nat} {T T' : Nat → Br} {vc ve : Value} (h : TreeIs w ss n T) (hn : n < ss.length) (h1 : firstC (oneC ss) n = 0)
    (hg : Grew T T' n ⟨ss[n].kind, ss[n].parent, ss[n].name, ss[n].arg, vc, ve, (path ss (n + 1)).length, .slice none 0 0, []⟩) (hvc : Nd.At w 0 vc ss[n].cond) (hve : Nd.At w 0 ve ss[n].expr) (hlow : ss[n].parent < n) : TreeIs w ss (n + 1) T' := by
  have e1 : (⟨ss[n].kind, ss[n].parent, ss[n].name, ss[n].arg, vc, ve, (path ss (n + 1)).length, .slice none 0 0, []⟩ : Br).par = ss[n].parent := rfl
  refine ⟨fun j hj h2 => ?_, fun j hj h2 => ?_, fun j hj h2 => ?_, fun j h2 => ?_, fun j h2 => ?_⟩
  · by_cases e : j = n
    · subst e; rw [hg.new]; exact ⟨rfl, rfl, rfl, rfl⟩
    · rw [hg.old j (by omega)]; exact h.val j hj (by omega)
  · by_cases e : j = n
    · subst e; rw [hg.new]; exact hvc
    · rw [hg.old j (by omega)]; exact h.vc j hj (by omega)
  · by_cases e : j = n
    · subst e; rw [hg.new]; exact hve
    · rw [hg.old j (by omega)]; exact h.ve j hj (by omega)
  · by_cases e : j = n
    · subst e; rw [hg.new]
    · rw [hg.old j (by omega)]; exact h.deep j (by omega)
  · rw [kidsN_succ, PJ_eq hn]
    by_cases e : j = n
    · subst e
      rw [hg.new, if_neg (by omega), List.append_nil]
      symm
      unfold kidsN
      rw [List.filter_eq_nil_iff]
      intro i hi
      have hi' : i < j := by simpa using hi
      have := (par_lt (first_all h1 hi')).1
      simp only [beq_iff_eq]
      omega
    · rw [hg.old j (by omega)]
      show (T j).kids ++ (if (j : Int) = ss[n].parent then [n] else []) = _
      rw [h.kids j (by omega)]
      congr 1
      by_cases e2 : (j : Int) = ss[n].parent
      · rw [if_pos e2, if_pos e2.symm]
      · rw [if_neg e2, if_neg (fun e3 => e2 e3.symm)]
theorem f_par {ss : List StepD} {i : Nat} {p : Int} (h : parOk i p = false) : fcode i (path ss i) p = 3 := by
  have hp := par_not.1 h
  have : pfault i (path ss i) p = 3 := by
    unfold pfault
    rcases hp with ⟨h0, hp⟩ | ⟨h0, hp⟩
    · rw [if_pos h0, if_neg hp]
    · rw [if_neg (by omega), if_neg hp]
  unfold fcode
  rw [this]
  rfl
theorem par_yes {i : Nat} {p : Int} (h : parOk i p = true) : ¬ ((i = 0 ∧ p ≠ -1) ∨ (0 < i ∧ ¬ (0 ≤ p ∧ p < i))) := fun e => by rw [par_not.2 e] at h; cases h
theorem f_line {ss : List StepD} {i : Nat} {p : Int} (h : parOk i p = true) (hf : 0 < i ∧ onPath p (path ss i) = false) : fcode i (path ss i) p = 1 := by
  have hp := par_yes h
  have : pfault i (path ss i) p = 1 := by
    unfold pfault
    rw [if_neg (by omega), if_pos (Classical.byContradiction (fun e => hp (.inr ⟨hf.1, e⟩))), hf.2]
    rfl
  unfold fcode
  rw [this]
  rfl
theorem f_else {ss : List StepD} {i : Nat} {p : Int} (h : parOk i p = true) (hf : ¬ (0 < i ∧ onPath p (path ss i) = false)) : fcode i (path ss i) p = if 7 < (cutTo p (path ss i)).length + 1 then 2 else 0 := by
  have hp := par_yes h
  have : pfault i (path ss i) p = 0 := by
    unfold pfault
    by_cases h0 : i = 0
    · rw [if_pos h0, if_pos (Classical.byContradiction (fun e => hp (.inl ⟨h0, e⟩)))]
    · rw [if_neg h0, if_pos (Classical.byContradiction (fun e => hp (.inr ⟨by omega, e⟩)))]
      cases hb : onPath p (path ss i)
      · exact absurd ⟨by omega, hb⟩ hf
      · rfl
  unfold fcode
  rw [this]
  rfl
/-- How far the program has come. -/
structure Built (w wr : World) (ss : List StepD) (i : Nat) (v : Value) (T : Nat → Br) : Prop where
  seen : firstC (oneC ss) i = 0
  tree : TreeAt wr w.heap.size v i T
  is : TreeIs w ss i T
  deep : DeepOn T (path ss i)
  below : Below w.heap.size w wr
theorem Built.lens {w wr : World} {ss : List StepD} {i : Nat} {v : Value} {T : Nat → Br} (h : Built w wr ss i v T) : ∀ j, j < i → (T j).kids.length < i := fun j hj => by
  rw [h.is.kids j hj]
  exact kidsN_lt (by omega) (by have := (par_lt (first_all h.seen (i := 0) (by omega))).1; simpa using this)
def fault1 (ss : List StepD) : Int := if ss.length < 1 ∨ 24 < ss.length then 2 else firstC (oneC ss) ss.length
theorem f1_many {ss : List StepD} (h : ss.length < 1 ∨ 24 < ss.length) : fault1 ss = 2 := by unfold fault1; rw [if_pos h]
theorem f1_bad {ss : List StepD} (h : ¬ (ss.length < 1 ∨ 24 < ss.length)) {i : Nat} (hi : i < ss.length) (h1 : firstC (oneC ss) i = 0) (h2 : oneC ss i ≠ 0) : fault1 ss = oneC ss i := by unfold fault1; rw [if_neg h, first_bad hi h1 h2]
theorem f1_ok {ss : List StepD} (h : ¬ (ss.length < 1 ∨ 24 < ss.length)) (h1 : firstC (oneC ss) ss.length = 0) : fault1 ss = 0 := by unfold fault1; rw [if_neg h, h1]
theorem off_cell {w w' : World} {v x : Value} {n b o : Nat} {T : Nat → Br} (h : KeptOff w w' v n T) (ho : Off v n T b) (hc : w.cell? ⟨b, o, none⟩ = some x) : w'.cell? ⟨b, o, none⟩ = some x := by
  have hb := Nd.lt_of_cell hc
  simp only [World.cell?] at hc ⊢
  rw [h.block b hb ho]
  exact hc
theorem all_cells {w w' : World} {b : Nat} (h : ∀ o x, w.cell? ⟨b, o, none⟩ = some x → w'.cell? ⟨b, o, none⟩ = some x) {x0 x1 x2 x3 x4 x5 : Value} (hc : w.cell? ⟨b, 0, none⟩ = some x0 ∧ w.cell? ⟨b, 1, none⟩ = some x1 ∧ w.cell? ⟨b, 2, none⟩ = some x2 ∧ w.cell? ⟨b, 3, none⟩ = some x3 ∧ w.cell? ⟨b, 4, none⟩ = some x4 ∧ w.cell? ⟨b, 5, none⟩ = some x5) :
    w'.cell? ⟨b, 0, none⟩ = some x0 ∧ w'.cell? ⟨b, 1, none⟩ = some x1 ∧ w'.cell? ⟨b, 2, none⟩ = some x2 ∧ w'.cell? ⟨b, 3, none⟩ = some x3 ∧ w'.cell? ⟨b, 4, none⟩ = some x4 ∧ w'.cell? ⟨b, 5, none⟩ = some x5 := ⟨h _ _ hc.1, h _ _ hc.2.1, h _ _ hc.2.2.1, h _ _ hc.2.2.2.1, h _ _ hc.2.2.2.2.1, h _ _ hc.2.2.2.2.2⟩
theorem all_cells7 {w w' : World} {b : Nat} (h : ∀ o x, w.cell? ⟨b, o, none⟩ = some x → w'.cell? ⟨b, o, none⟩ = some x) {x0 x1 x2 x3 x4 x5 x6 : Value} (hc : w.cell? ⟨b, 0, none⟩ = some x0 ∧ w.cell? ⟨b, 1, none⟩ = some x1 ∧ w.cell? ⟨b, 2, none⟩ = some x2 ∧ w.cell? ⟨b, 3, none⟩ = some x3 ∧ w.cell? ⟨b, 4, none⟩ = some x4 ∧ w.cell? ⟨b, 5, none⟩ = some x5 ∧ w.cell? ⟨b, 6, none⟩ = some x6) :
    w'.cell? ⟨b, 0, none⟩ = some x0 ∧ w'.cell? ⟨b, 1, none⟩ = some x1 ∧ w'.cell? ⟨b, 2, none⟩ = some x2 ∧ w'.cell? ⟨b, 3, none⟩ = some x3 ∧ w'.cell? ⟨b, 4, none⟩ = some x4 ∧ w'.cell? ⟨b, 5, none⟩ = some x5 ∧ w'.cell? ⟨b, 6, none⟩ = some x6 := ⟨h _ _ hc.1, h _ _ hc.2.1, h _ _ hc.2.2.1, h _ _ hc.2.2.2.1, h _ _ hc.2.2.2.2.1, h _ _ hc.2.2.2.2.2.1, h _ _ hc.2.2.2.2.2.2⟩
theorem blw_cell {B : Nat} {W w : World} (h : Below B W w) {b : Nat} (hb : b < B) : ∀ o x, W.cell? ⟨b, o, none⟩ = some x → w.cell? ⟨b, o, none⟩ = some x := fun o x hx => (h.cell (p := ⟨b, o, none⟩) hb).trans hx
set_option maxRecDepth 100000 in
set_option maxHeartbeats 16000000 in
theorem stepTree (ss : List StepD) (v : Value) (w : World) (hsm : St.Small 1048576 ss) (ha : St.At w 0 v ss) (hr : Rul w) :
    Calls Tryz.prog 74 #[v] w fun e w' => (∃ v', e = .returned (.tuple #[v', .int .i64 (fault1 ss)]) ∧ (fault1 ss ≠ 0 → v' = .slice none 0 0) ∧
      (fault1 ss = 0 → ∃ T, TreeAt w' w.heap.size v' ss.length T ∧ TreeIs w ss ss.length T)) ∧ Below w.heap.size w w' := by
  obtain ⟨a, cap, rfl⟩ := ha.slice
  have HA := hid ha
  have HSM := hid hsm
  have HR := hid hr
  have hgl := hr.lt
  have hlen := hsm.1
  clear ha hsm hr
  by_cases z1 : ss.length < 1
  · have HV := hid (f1_many (.inl z1))
    have q : (ss.length : Int) < 1 := by omega
    go_enter Tryz.func74, Tryz.ntmps74
    go_wp2
    go_ret2
    exact ⟨⟨_, by rw [HV.out]; rfl, fun _ => rfl, fun e => by rw [HV.out] at e; omega⟩, Below.refl _ _⟩
  by_cases z2 : 24 < ss.length
  · have HV := hid (f1_many (.inr z2))
    have q : ¬ (ss.length : Int) < 1 := by omega
    have q' : (24 : Int) < (ss.length : Int) := by omega
    go_enter Tryz.func74, Tryz.ntmps74
    go_wp2
    go_ret2
    exact ⟨⟨_, by rw [HV.out]; rfl, fun _ => rfl, fun e => by rw [HV.out] at e; omega⟩, Below.refl _ _⟩
  have HZ : Hid (¬ (ss.length < 1 ∨ 24 < ss.length)) := hid (by omega)
  have q : ¬ (ss.length : Int) < 1 := by omega
  have q' : ¬ (24 : Int) < (ss.length : Int) := by omega
  have hl : ss.length ≤ 24 := by omega
  clear z1 z2
  go_enter Tryz.func74, Tryz.ntmps74
  go_wp2
  go_loopw [4, 5, 7, 8, 9, 20] (fun t _ _ _ _ x wr => ∃ (i : Nat) (T : Nat → Br), x = .int .i64 i ∧ i ≤ ss.length ∧ (∃ a4 c4, t = .slice a4 i c4) ∧ Hid (Built w wr ss i t T)) (fun _ _ _ _ _ x _ => ss.length - (intOf x).toNat)
  case atStart => exact ⟨0, fun _ => ⟨0, 0, ByteArray.empty, 0, .slice none 0 0, .slice none 0 0, 0, .slice none 0 0, []⟩, rfl, Nat.zero_le _, ⟨_, _, rfl⟩, hid ⟨rfl, TreeAt.nil _ _ _, TreeIs.start _ _ _, trivial, Below.refl _ _⟩⟩
  case round =>
    obtain ⟨i, T, rfl, hil, ⟨a4, c4, rfl⟩, HB⟩ := hrel
    have hZ := HB.out.below.size
    by_cases hlt : i < ss.length
    · obtain ⟨g, o, vc, ve, rfl, hg0, d0, d1, d2, d3, d4, d5, hvc, hve⟩ := HA.out.at hlt
      obtain ⟨ac, cc, rfl⟩ := hvc.slice
      obtain ⟨ae, ce, rfl⟩ := hve.slice
      have c0 := (HB.out.below.cell (p := ⟨g, o + i * 6, none⟩) hg0).trans d0
      have c1 := (HB.out.below.cell (p := ⟨g, o + i * 6 + 1, none⟩) hg0).trans d1
      have c2 := (HB.out.below.cell (p := ⟨g, o + i * 6 + 2, none⟩) hg0).trans d2
      have c3 := (HB.out.below.cell (p := ⟨g, o + i * 6 + 3, none⟩) hg0).trans d3
      have c4' := (HB.out.below.cell (p := ⟨g, o + i * 6 + 4, none⟩) hg0).trans d4
      have c5 := (HB.out.below.cell (p := ⟨g, o + i * 6 + 5, none⟩) hg0).trans d5
      have hg : g < wr.heap.size := Nat.lt_of_lt_of_le hg0 hZ
      have HVC := hid hvc
      have HVE := hid hve
      clear d0 d1 d2 d3 d4 d5 hvc hve
      have q1 : (i : Int) < (ss.length : Int) := by omega
      have hsi := HSM.out.at hlt
      have s1 := hsi.1
      have s2 := hsi.2.1
      have s3 := hsi.2.2
      clear hsi
      have hpj : PJ ss i = ss[i] := PJ_eq hlt
      have HF1 := hid (one_form (ss := ss) (i := i))
      have HF2 := hid (one_par (ss := ss) (i := i))
      have HF3 := hid (one_line (ss := ss) (i := i))
      have HF4 := hid (one_many (ss := ss) (i := i))
      have HF5 := hid (one_part (ss := ss) (i := i))
      rw [hpj] at HF1 HF2 HF3 HF4 HF5
      have HBad := hid (fun (h : oneC ss i ≠ 0) => f1_bad HZ.out hlt HB.out.seen h)
      have hxA : Below wr.heap.size wr (wr.alloc (.cells #[.int .i64 ss[i].kind, .int .i64 ss[i].parent, .string ss[i].name, .int .i64 ss[i].arg, .slice ac ss[i].cond.length cc, .slice ae ss[i].expr.length ce] 49)) := (Below.refl _ wr).alloc (Nat.le_refl _) _
      have HxA := hid hxA
      have HBA : Hid (Below w.heap.size w (wr.alloc (.cells #[.int .i64 ss[i].kind, .int .i64 ss[i].parent, .string ss[i].name, .int .i64 ss[i].arg, .slice ac ss[i].cond.length cc, .slice ae ss[i].expr.length ce] 49))) := hid (HB.out.below.trans (hxA.mono hZ))
      have HRA := hid (HR.out.below HBA.out (by omega))
      have kA : (wr.alloc (.cells #[.int .i64 ss[i].kind, .int .i64 ss[i].parent, .string ss[i].name, .int .i64 ss[i].arg, .slice ac ss[i].cond.length cc, .slice ae ss[i].expr.length ce] 49)).cell? ⟨wr.heap.size, 0, none⟩ = some (.int .i64 ss[i].kind) ∧ (wr.alloc (.cells #[.int .i64 ss[i].kind, .int .i64 ss[i].parent, .string ss[i].name, .int .i64 ss[i].arg, .slice ac ss[i].cond.length cc, .slice ae ss[i].expr.length ce] 49)).cell? ⟨wr.heap.size, 1, none⟩ = some (.int .i64 ss[i].parent) ∧ (wr.alloc (.cells #[.int .i64 ss[i].kind, .int .i64 ss[i].parent, .string ss[i].name, .int .i64 ss[i].arg, .slice ac ss[i].cond.length cc, .slice ae ss[i].expr.length ce] 49)).cell? ⟨wr.heap.size, 2, none⟩ = some (.string ss[i].name) ∧ (wr.alloc (.cells #[.int .i64 ss[i].kind, .int .i64 ss[i].parent, .string ss[i].name, .int .i64 ss[i].arg, .slice ac ss[i].cond.length cc, .slice ae ss[i].expr.length ce] 49)).cell? ⟨wr.heap.size, 3, none⟩ = some (.int .i64 ss[i].arg) ∧ (wr.alloc (.cells #[.int .i64 ss[i].kind, .int .i64 ss[i].parent, .string ss[i].name, .int .i64 ss[i].arg, .slice ac ss[i].cond.length cc, .slice ae ss[i].expr.length ce] 49)).cell? ⟨wr.heap.size, 4, none⟩ = some (.slice ac ss[i].cond.length cc) ∧ (wr.alloc (.cells #[.int .i64 ss[i].kind, .int .i64 ss[i].parent, .string ss[i].name, .int .i64 ss[i].arg, .slice ac ss[i].cond.length cc, .slice ae ss[i].expr.length ce] 49)).cell? ⟨wr.heap.size, 5, none⟩ = some (.slice ae ss[i].expr.length ce) := ⟨by go_simp, by go_simp, by go_simp, by go_simp, by go_simp, by go_simp⟩
      have KA := hid kA
      have hzA : (wr.alloc (.cells #[.int .i64 ss[i].kind, .int .i64 ss[i].parent, .string ss[i].name, .int .i64 ss[i].arg, .slice ac ss[i].cond.length cc, .slice ae ss[i].expr.length ce] 49)).heap.size = wr.heap.size + 1 := by simp
      clear hxA kA
      go_wp2_with fail
      generalize wr.alloc (.cells #[.int .i64 ss[i].kind, .int .i64 ss[i].parent, .string ss[i].name, .int .i64 ss[i].arg, .slice ac ss[i].cond.length cc, .slice ae ss[i].expr.length ce] 49) = wA at *
      cases hk : inR ss[i].kind 1 8
      · have HV := hid (HF1.out (by simp [formOk, hk]))
        have HV2 := hid (HBad.out (by rw [HV.out]; decide))
        refine (ruleBad _ _ hk HRA.out).mono ?_
        rintro e w1 ⟨rfl, hb1⟩
        have hB1 := HBA.out.trans (hb1.mono HBA.out.size)
        clear hk
        go_wp2
        go_ret2
        exact ⟨⟨_, by rw [HV2.out, HV.out]; rfl, fun _ => rfl, fun e => by rw [HV2.out, HV.out] at e; omega⟩, hB1.alloc hB1.size _⟩
      refine (ruleOk _ _ hk HRA.out).mono ?_
      rintro e w1 ⟨rfl, hb1⟩
      have HAL := hid (allows_eq (s := ss[i]) hk)
      have HPA := hid (parts_eq (s := ss[i]) hk)
      generalize hrr : ruleD ss[i].kind = r at *
      unfold RuleD.row
      have HB1 := hid (HBA.out.trans (hb1.mono HBA.out.size))
      have HXB := hid (HxA.out.trans (hb1.mono HxA.out.size))
      have KA1 := hid (all_cells (blw_cell hb1 (by omega)) KA.out)
      have hz1 : wr.heap.size + 1 ≤ w1.heap.size := by have := hb1.size; omega
      have hxB : Below w1.heap.size w1 (w1.alloc (.cells #[.string r.word, .bool r.hn, .bool r.he, .int .i64 r.la, .int .i64 r.ma, .int .i64 r.lk, .int .i64 r.mx] 82)) := (Below.refl _ w1).alloc (Nat.le_refl _) _
      have HB2 : Hid (Below w.heap.size w (w1.alloc (.cells #[.string r.word, .bool r.hn, .bool r.he, .int .i64 r.la, .int .i64 r.ma, .int .i64 r.lk, .int .i64 r.mx] 82))) := hid (HB1.out.trans (hxB.mono HB1.out.size))
      have HX2 : Hid (Below wr.heap.size wr (w1.alloc (.cells #[.string r.word, .bool r.hn, .bool r.he, .int .i64 r.la, .int .i64 r.ma, .int .i64 r.lk, .int .i64 r.mx] 82))) := hid (HXB.out.trans (hxB.mono HXB.out.size))
      have kb := all_cells (blw_cell hxB (by omega)) KA1.out
      obtain ⟨b0, b1, b2, b3, b4, b5⟩ := kb
      have kr : (w1.alloc (.cells #[.string r.word, .bool r.hn, .bool r.he, .int .i64 r.la, .int .i64 r.ma, .int .i64 r.lk, .int .i64 r.mx] 82)).cell? ⟨w1.heap.size, 0, none⟩ = some (.string r.word) ∧ (w1.alloc (.cells #[.string r.word, .bool r.hn, .bool r.he, .int .i64 r.la, .int .i64 r.ma, .int .i64 r.lk, .int .i64 r.mx] 82)).cell? ⟨w1.heap.size, 1, none⟩ = some (.bool r.hn) ∧ (w1.alloc (.cells #[.string r.word, .bool r.hn, .bool r.he, .int .i64 r.la, .int .i64 r.ma, .int .i64 r.lk, .int .i64 r.mx] 82)).cell? ⟨w1.heap.size, 2, none⟩ = some (.bool r.he) ∧ (w1.alloc (.cells #[.string r.word, .bool r.hn, .bool r.he, .int .i64 r.la, .int .i64 r.ma, .int .i64 r.lk, .int .i64 r.mx] 82)).cell? ⟨w1.heap.size, 3, none⟩ = some (.int .i64 r.la) ∧ (w1.alloc (.cells #[.string r.word, .bool r.hn, .bool r.he, .int .i64 r.la, .int .i64 r.ma, .int .i64 r.lk, .int .i64 r.mx] 82)).cell? ⟨w1.heap.size, 4, none⟩ = some (.int .i64 r.ma) ∧ (w1.alloc (.cells #[.string r.word, .bool r.hn, .bool r.he, .int .i64 r.la, .int .i64 r.ma, .int .i64 r.lk, .int .i64 r.mx] 82)).cell? ⟨w1.heap.size, 5, none⟩ = some (.int .i64 r.lk) ∧ (w1.alloc (.cells #[.string r.word, .bool r.hn, .bool r.he, .int .i64 r.la, .int .i64 r.ma, .int .i64 r.lk, .int .i64 r.mx] 82)).cell? ⟨w1.heap.size, 6, none⟩ = some (.int .i64 r.mx) := ⟨by go_simp, by go_simp, by go_simp, by go_simp, by go_simp, by go_simp, by go_simp⟩
      have KR := hid kr
      have KB : Hid _ := hid (And.intro b0 (And.intro b1 (And.intro b2 (And.intro b3 (And.intro b4 b5)))))
      have hz2 : (w1.alloc (.cells #[.string r.word, .bool r.hn, .bool r.he, .int .i64 r.la, .int .i64 r.ma, .int .i64 r.lk, .int .i64 r.mx] 82)).heap.size = w1.heap.size + 1 := by simp
      have hlw : wr.heap.size < (w1.alloc (.cells #[.string r.word, .bool r.hn, .bool r.he, .int .i64 r.la, .int .i64 r.ma, .int .i64 r.lk, .int .i64 r.mx] 82)).heap.size := by omega
      clear hxB kr hb1 KA1 HB1 HXB HBA HxA KA HRA hrr
      go_wp2_with fail
      generalize w1.alloc (.cells #[.string r.word, .bool r.hn, .bool r.he, .int .i64 r.la, .int .i64 r.ma, .int .i64 r.lk, .int .i64 r.mx] 82) = wB at *
      refine (allows r ss[i] _ ae ss[i].expr.length ce wB rfl (by omega) ⟨_, _, _, rfl⟩).mono ?_
      rintro e w2 ⟨rfl, hb2⟩
      rw [HAL.out]
      have HB3 := hid (HB2.out.trans (hb2.mono HB2.out.size))
      have HX3 := hid (HX2.out.trans (hb2.mono HX2.out.size))
      have KB3 := hid (all_cells (blw_cell hb2 hlw) KB.out)
      have KR3 := hid (all_cells7 (blw_cell hb2 (by omega)) KR.out)
      have hz3 : w1.heap.size + 1 ≤ w2.heap.size := by have := hb2.size; omega
      have hlw3 : wr.heap.size < w2.heap.size := by omega
      have hlr3 : w1.heap.size < w2.heap.size := by omega
      clear hb2 KB KR HB2 HX2 b0 b1 b2 b3 b4 b5 HAL
      cases hbr : bare ss[i]
      · have HV := hid (HF1.out (by simp [formOk, hbr]))
        have HV2 := hid (HBad.out (by rw [HV.out]; decide))
        clear hbr hk
        go_wp2
        go_ret2
        exact ⟨⟨_, by rw [HV2.out, HV.out]; rfl, fun _ => rfl, fun e => by rw [HV2.out, HV.out] at e; omega⟩, HB3.out⟩
      have hfm : formOk ss[i] = true := by simp [formOk, hk, hbr]
      have HPB := hid (HPA.out hbr)
      have HF2x := hid (HF2.out hfm)
      have HF3x := hid (HF3.out hfm)
      have HF4x := hid (HF4.out hfm)
      have HF5x := hid (HF5.out hfm)
      have W := walked (by omega) HB.out.seen
      have HFT := hid (Pt.fillTree (es ss) T (path ss i) w.heap.size (.slice a4 i c4) i ss[i].kind ss[i].name ss[i].arg ss[i].parent ac ss[i].cond.length cc ae ss[i].expr.length ce w2 (by omega) (by rw [es_len]; exact hil) (by have := HB3.out.size; omega) (HB.out.tree.below HX3.out) (fun j h hj => by
        have h' : j < ss.length := by rw [es_len] at h; exact h
        rw [es_par h']
        exact (HB.out.is.val j h' hj).2.1) W.chain W.first HB.out.deep W.deep HB.out.lens)
      have HT2 := hid (HB.out.tree.below HX3.out)
      have HOS := hid (Pt.off_new HB.out.tree (b := wr.heap.size) (Nat.le_refl _))
      have HOR := hid (Pt.off_new HB.out.tree (b := w1.heap.size) (by omega))
      have hwz : w.heap.size ≤ w2.heap.size := HB3.out.size
      obtain ⟨b0, b1, b2, b3, b4, b5⟩ := KB3.out
      have hpc : (path ss (i + 1)).length = (cutTo ss[i].parent (path ss i)).length + 1 := by
        show (i :: cutTo (PJ ss i).parent (path ss i)).length = _
        rw [hpj, List.length_cons]
      have HPC := hid hpc
      clear hfm hk hbr HF1 HF2 HF3 HF4 HF5 HPA W hpc
      cases hp : parOk i ss[i].parent
      · have HV := hid (HF2x.out hp)
        have HV2 := hid (HBad.out (by rw [HV.out]; decide))
        have HC := hid (f_par (ss := ss) hp)
        clear hp
        go_wp2_with (go_at_call 96; refine HFT.out.mono ?_; rintro e w3 ⟨⟨v', rfl, hv1, _⟩, hk3⟩; obtain rfl := hv1 (by rw [HC.out]; decide); rw [HC.out])
        go_ret2
        exact ⟨⟨_, by rw [HV2.out, HV.out]; rfl, fun _ => rfl, fun e => by rw [HV2.out, HV.out] at e; omega⟩, HB3.out.trans (hk3.below HT2.out hwz)⟩
      by_cases hf : 0 < i ∧ onPath ss[i].parent (path ss i) = false
      · have HV := hid (HF3x.out hp hf)
        have HV2 := hid (HBad.out (by rw [HV.out]; decide))
        have HC := hid (f_line hp hf)
        clear hp hf
        go_wp2_with (go_at_call 96; refine HFT.out.mono ?_; rintro e w3 ⟨⟨v', rfl, hv1, _⟩, hk3⟩; obtain rfl := hv1 (by rw [HC.out]; decide); rw [HC.out])
        go_ret2
        exact ⟨⟨_, by rw [HV2.out, HV.out]; rfl, fun _ => rfl, fun e => by rw [HV2.out, HV.out] at e; omega⟩, HB3.out.trans (hk3.below HT2.out hwz)⟩
      have hfe := f_else hp hf
      rw [← HPC.out] at hfe
      by_cases h9 : 7 < (path ss (i + 1)).length
      · have HV := hid (HF4x.out hp hf h9)
        have HV2 := hid (HBad.out (by rw [HV.out]; decide))
        have HC : Hid (fcode i (path ss i) ss[i].parent = 2) := hid (by rw [hfe, if_pos h9])
        clear hp hf hfe h9
        go_wp2_with (go_at_call 96; refine HFT.out.mono ?_; rintro e w3 ⟨⟨v', rfl, hv1, _⟩, hk3⟩; obtain rfl := hv1 (by rw [HC.out]; decide); rw [HC.out])
        go_ret2
        exact ⟨⟨_, by rw [HV2.out, HV.out]; rfl, fun _ => rfl, fun e => by rw [HV2.out, HV.out] at e; omega⟩, HB3.out.trans (hk3.below HT2.out hwz)⟩
      have HC : Hid (fcode i (path ss i) ss[i].parent = 0) := hid (by rw [hfe, if_neg h9])
      have HONE := hid ((HF5x.out hp hf h9).trans HPB.out.symm)
      have HLW : Hid (ss[i].parent < i) := hid (by
        have h8 := par_yes hp
        rcases Nat.eq_zero_or_pos i with h0 | h0
        · have : ¬ ss[i].parent ≠ -1 := fun e => h8 (.inl ⟨h0, e⟩)
          omega
        · have : ¬ ¬ (0 ≤ ss[i].parent ∧ ss[i].parent < i) := fun e => h8 (.inr ⟨h0, e⟩)
          omega)
      clear hp hf hfe h9 HF2x HF3x HF4x HF5x HPB
      go_wp2_with fail
      refine HFT.out.mono ?_
      rintro e w3 ⟨⟨v', rfl, _, hv2⟩, hk3⟩
      obtain ⟨T', hT', hG'⟩ := hv2 HC.out
      rw [HC.out]
      obtain ⟨a5, c5', rfl⟩ := hT'.slice
      have HT' := hid hT'
      have HG' := hid hG'
      have HB4 := hid (HB3.out.trans (hk3.below HT2.out hwz))
      have ks := all_cells (fun o x hx => off_cell hk3 HOS.out hx) KB3.out
      have kr := all_cells7 (fun o x hx => off_cell hk3 HOR.out hx) KR3.out
      obtain ⟨m0, m1, m2, m3, m4, m5⟩ := ks
      obtain ⟨n0, n1, n2, n3, n4, n5, n6⟩ := kr
      have hz4 : w2.heap.size ≤ w3.heap.size := hk3.size
      have l1 : wr.heap.size < w3.heap.size := by omega
      have l2 : w1.heap.size < w3.heap.size := by omega
      have HPF := hid (partsFault r ss[i] (.slice ac ss[i].cond.length cc) ae ce 0 w3 (by omega) (by unfold maxLen; omega) ⟨_, _, _, rfl⟩ (HVE.out.below HB4.out))
      have HBad2 : Hid (partsR r ss[i] ≠ 0 → fault1 ss = partsR r ss[i]) := hid (fun h => by rw [HBad.out (by rw [HONE.out]; exact h), HONE.out])
      have HNX2 : Hid (partsR r ss[i] = 0 → firstC (oneC ss) (i + 1) = 0) := hid (fun h => first_next HB.out.seen (by rw [HONE.out]; exact h))
      clear hT' hG' hv2 hk3 HFT b0 b1 b2 b3 b4 b5 KB3 KR3 HBad HONE
      generalize partsR r ss[i] = pr at *
      go_wp2_with fail
      refine HPF.out.mono ?_
      rintro e w4 ⟨rfl, hb4⟩
      have HB5 := hid (HB4.out.trans (hb4.mono HB4.out.size))
      by_cases hz : pr = 0
      · have t1 : (pr != 0) = false := by simp [hz]
        have HNX := hid (HNX2.out hz)
        clear hz HPF
        go_wp2
        have hW := walked (by omega) HNX.out
        have hG := HG'.out
        rw [← HPC.out] at hG
        have hdp : DeepOn T' (path ss (i + 1)) := by
          have hch := hW.chain
          have hpe : path ss (i + 1) = i :: cutTo ss[i].parent (path ss i) := by
            show i :: cutTo (PJ ss i).parent (path ss i) = _
            rw [hpj]
          rw [hpe] at hch ⊢
          exact ⟨by rw [HG'.out.new], Pt.deep_congr (fun j hj => by rw [HG'.out.old j hj]) (Tr.chain_tail hch) (Tr.top_lt hch) (Pt.deep_cut HB.out.deep)⟩
        exact ⟨⟨i + 1, T', by simp, by omega, ⟨_, _, rfl⟩, hid ⟨HNX.out, HT'.out.below hb4, HB.out.is.grew hlt HB.out.seen hG HVC.out HVE.out HLW.out, hdp, HB5.out⟩⟩, by simp [intOf]; omega⟩
      · have t1 : (pr != 0) = true := bne_iff_ne.2 hz
        have HV := hid (HBad2.out hz)
        have HNZ := hid hz
        clear hz HPF
        go_wp2
        go_ret2
        exact ⟨⟨_, by rw [HV.out]; rfl, fun _ => rfl, fun e => absurd (by rw [← HV.out]; exact e) HNZ.out⟩, HB5.out⟩
    · have hin : i = ss.length := by omega
      have HI := hid hin
      have HV : Hid (fault1 ss = 0) := hid (f1_ok HZ.out (by rw [← hin]; exact HB.out.seen))
      clear hin
      go_wp2
      go_ret2
      refine ⟨⟨_, by rw [HV.out]; rfl, fun e => absurd HV.out e, fun _ => ⟨T, ?_, ?_⟩⟩, HB.out.below⟩
      · show TreeAt wr w.heap.size (.slice a4 i c4) ss.length T
        rw [← HI.out]
        exact HB.out.tree
      · rw [← HI.out]
        exact HB.out.is
end Pf
end Go.Proofs.YtgghigfflpbjiaaGreatDoor
/- The steps with their places, as the program lays them out. -/
namespace Go.Proofs.YtgghigfflpbjiaaGreatDoor
open Go.RowKit
set_option linter.unusedVariables false
namespace Pf
open Ex (hid inR eFault typeCode typeVal)
open Nd (NodeD)
open St (StepD)
open Tr (Chain cutTo onPath top nf ElemD)
open Pt (TreeAt Br flat flat_succ flat_len flat_get kidVals infoI64 info_parts)
def pvals (T : Nat → Br) (j : Nat) : List Value := [.int .i64 (j : Int), .int .i64 ((T j).deep : Int), (T j).kv, .int .i64 (T j).kind, .int .i64 (T j).par, .string (T j).name, .int .i64 (T j).arg, (T j).vc, (T j).ve]
theorem pvals_len (T : Nat → Br) (j : Nat) : (pvals T j).length = 9 := rfl
theorem infoPlaced : (Tryz.prog.info? 126).map (fun i => (i.zero, i.size, i.bytes)) = some (some (.agg #[.int .i64 0, .int .i64 0, .slice none 0 0, .int .i64 0, .int .i64 0, .string { data := #[] }, .int .i64 0, .slice none 0 0, .slice none 0 0]), 9, 128) := by kernel_rfl
theorem kv_slice {w : World} {B n : Nat} {v : Value} {T : Nat → Br} (h : TreeAt w B v n T) {j : Nat} (hj : j < n) : ∃ a c, (T j).kv = .slice a (T j).kids.length c := by
  rcases (h.kids j hj).2 with ⟨e1, e2⟩ | ⟨x, y, _, e1, _⟩
  · exact ⟨none, 0, by rw [e1, e2]⟩
  · exact ⟨_, _, e1⟩
theorem own9_slice {w : World} {B n : Nat} {v : Value} {xs : List Value} {e : TypeId} (h : w.ownsRow B e 9 v n xs) : ∃ a cap, v = .slice a n cap := by
  obtain ⟨_, ⟨rfl, rfl⟩ | ⟨g, cap, cur, rfl, _⟩⟩ := h
  · exact ⟨_, _, rfl⟩
  · exact ⟨_, _, rfl⟩
set_option maxRecDepth 100000 in
set_option maxHeartbeats 8000000 in
theorem placeSteps (T : Nat → Br) (B n : Nat) (v : Value) (w : World) (hn : n ≤ 24) (ht : TreeAt w B v n T) (hvs : ∀ j, j < n → (∃ a c e, (T j).vc = .slice a c e) ∧ (∃ a c e, (T j).ve = .slice a c e)) :
    Calls Tryz.prog 75 #[v] w fun e w' => (∃ u, e = .returned u ∧ w'.ownsRow w.heap.size 126 9 u n (flat (pvals T) n)) ∧ Below w.heap.size w w' := by
  obtain ⟨a, cap, rfl⟩ := ht.slice
  have HT := hid ht
  have HVS := hid hvs
  clear ht hvs
  obtain ⟨i0, hi0, hz0, hz1, hz2⟩ := info_parts infoPlaced
  go_enter Tryz.func75, Tryz.ntmps75
  go_wp2
  go_loopw [3, 4, 5, 6, 9] (fun o _ _ _ x wr => ∃ j : Nat, x = .int .i64 j ∧ j ≤ n ∧ (∃ a5 c5, o = .slice a5 j c5) ∧ Hid (wr.ownsRow w.heap.size 126 9 o j (flat (pvals T) j)) ∧ Below w.heap.size w wr) (fun _ _ _ _ x _ => n - (intOf x).toNat)
  case atStart => exact ⟨0, rfl, Nat.zero_le _, ⟨_, _, rfl⟩, World.ownsRow_nil w _ _ 9, Below.refl _ _⟩
  case round =>
    obtain ⟨j, rfl, hj, ⟨a5, c5, rfl⟩, HO, hbel⟩ := hrel
    have hz := hbel.size
    by_cases hlt : j < n
    · obtain ⟨g, rfl, _, hBg, hg, e0, e1, e2, e3, e4, e5, e6, e7, e8, _⟩ := (HT.out.below hbel).at hlt
      obtain ⟨ak, ck, hkv⟩ := kv_slice HT.out hlt
      obtain ⟨⟨ac, nc, cc, hvc⟩, ⟨ae, ne, ce, hve⟩⟩ := HVS.out j hlt
      have HS : Hid (flat (pvals T) (j + 1) = flat (pvals T) j ++ pvals T j) := hid (flat_succ _ _)
      have HPV : Hid (pvals T j = [.int .i64 (j : Int), .int .i64 ((T j).deep : Int), .slice ak (T j).kids.length ck, .int .i64 (T j).kind, .int .i64 (T j).par, .string (T j).name, .int .i64 (T j).arg, .slice ac nc cc, .slice ae ne ce]) := hid (by unfold pvals; rw [hkv, hvc, hve])
      rw [hkv] at e8
      rw [hvc] at e4
      rw [hve] at e5
      clear hkv hvc hve
      have q1 : (j : Int) < (n : Int) := by omega
      have hown := HO.out
      generalize (T j).kind = kd at *
      generalize (T j).par = pr at *
      generalize (T j).name = nm at *
      generalize (T j).arg = ag at *
      generalize (T j).deep = dp at *
      generalize (T j).kids.length = nk at *
      go_wp2_with (at_builtin; go_must (refine wpList_append_own _ rfl _ _ 78 rfl w.heap.size 126 i0 (.agg #[.int .i64 0, .int .i64 0, .slice none 0 0, .int .i64 0, .int .i64 0, .string { data := #[] }, .int .i64 0, .slice none 0 0, .slice none 0 0]) 9 128 Tryz.underlying78 hi0 hz0 hz1 hz2 rfl (by decide) _ _ _ rfl (((hown.alloc _).alloc _).alloc _) ⟨wr.heap.size + 1 + 1, 0, none⟩ 1 1 [.int .i64 (j : Int), .int .i64 (dp : Int), .slice ak nk ck, .int .i64 kd, .int .i64 pr, .string nm, .int .i64 ag, .slice ac nc cc, .slice ae ne ce] rfl rfl (Pt.cell_nine _ _ (by simp) _ _ _ _ _ _ _ _ _ _) (by simp [Value.oneCell']) (by unfold maxLen; omega) (by omega) (by simp; omega) ?_); intro v' w2 hown' hgrow _; obtain ⟨g9, c9, rfl⟩ := ownsRow_succ hown')
      have hB2 : Below w.heap.size w w2 := (((hbel.alloc hz _).alloc (by simp; omega) _).alloc (by simp; omega) _).grown hgrow (by simp; omega) (fun b e => (Pt.own_lt hown e).1)
      refine ⟨⟨j + 1, by simp, by omega, ⟨some ⟨g9, 0, none⟩, c9, rfl⟩, hid ?_, hB2⟩, by simp [intOf]; omega⟩
      rw [HS.out, HPV.out]
      exact hown'
    · obtain rfl : j = n := by omega
      go_wp2
      go_ret
      exact ⟨⟨_, rfl, HO.out⟩, hbel⟩
/-- A list of places that can be read. -/
def KidsAt (w : World) (v : Value) (l : List Nat) : Prop := ∃ B, w.ownsRow B 2 1 v l.length (kidVals l)
theorem KidsAt.below {w w' : World} {v : Value} {l : List Nat} (h : KidsAt w v l) (hb : Below w.heap.size w w') : KidsAt w' v l := by
  obtain ⟨B, h⟩ := h
  exact ⟨B, h.kept (row := none) ⟨hb.os, hb.tape, hb.output, hb.size, fun k hk _ => hb.block k hk⟩ (by cases v.ownBlock <;> simp)⟩
theorem KidsAt.slice {w : World} {v : Value} {l : List Nat} (h : KidsAt w v l) : ∃ a cap, v = .slice a l.length cap := by
  obtain ⟨B, _, ⟨rfl, h0⟩ | ⟨g, cap, cur, rfl, _⟩⟩ := h
  · exact ⟨none, 0, by rw [h0]⟩
  · exact ⟨_, _, rfl⟩
/-- The cells of a step with its place. -/
structure PCells (w : World) (ss : List StepD) (j : Nat) (h : j < ss.length) (kv vc ve : Value) : Prop where
  kids : KidsAt w kv (kidsL ss j)
  cond : Nd.At w 0 vc ss[j].cond
  expr : Nd.At w 0 ve ss[j].expr
theorem PCells.below {w w' : World} {ss : List StepD} {j : Nat} {h : j < ss.length} {kv vc ve : Value} (p : PCells w ss j h kv vc ve) (hb : Below w.heap.size w w') : PCells w' ss j h kv vc ve := ⟨p.kids.below hb, p.cond.below hb, p.expr.below hb⟩
def PAt (w : World) (ss : List StepD) (u : Value) : Prop := ∃ g cap, u = .slice (some ⟨g, 0, none⟩) ss.length cap ∧ g < w.heap.size ∧ ∀ j (h : j < ss.length), ∃ kv vc ve, w.cell? ⟨g, j * 9, none⟩ = some (.int .i64 (j : Int)) ∧ w.cell? ⟨g, j * 9 + 1, none⟩ = some (.int .i64 ((path ss (j + 1)).length : Int)) ∧ w.cell? ⟨g, j * 9 + 2, none⟩ = some kv ∧ w.cell? ⟨g, j * 9 + 3, none⟩ = some (.int .i64 ss[j].kind) ∧ w.cell? ⟨g, j * 9 + 4, none⟩ = some (.int .i64 ss[j].parent) ∧ w.cell? ⟨g, j * 9 + 5, none⟩ = some (.string ss[j].name) ∧ w.cell? ⟨g, j * 9 + 6, none⟩ = some (.int .i64 ss[j].arg) ∧ w.cell? ⟨g, j * 9 + 7, none⟩ = some vc ∧ w.cell? ⟨g, j * 9 + 8, none⟩ = some ve ∧ PCells w ss j h kv vc ve
theorem PAt.below {w w' : World} {ss : List StepD} {u : Value} (h : PAt w ss u) (hb : Below w.heap.size w w') : PAt w' ss u := by
  obtain ⟨g, cap, rfl, hg, hc⟩ := h
  refine ⟨g, cap, rfl, Nat.lt_of_lt_of_le hg hb.size, fun j hj => ?_⟩
  obtain ⟨kv, vc, ve, h0, h1, h2, h3, h4, h5, h6, h7, h8, hp⟩ := hc j hj
  have e : ∀ o, w'.cell? ⟨g, o, none⟩ = w.cell? ⟨g, o, none⟩ := fun o => hb.cell (p := ⟨g, o, none⟩) hg
  exact ⟨kv, vc, ve, (e _).trans h0, (e _).trans h1, (e _).trans h2, (e _).trans h3, (e _).trans h4, (e _).trans h5, (e _).trans h6, (e _).trans h7, (e _).trans h8, hp.below hb⟩
theorem PAt.of {w w' w0 : World} {B : Nat} {ss : List StepD} {v u : Value} {T : Nat → Br} (hn : 0 < ss.length) (ht : TreeAt w B v ss.length T) (hi : TreeIs w0 ss ss.length T) (h0 : Below w0.heap.size w0 w) (hb : Below w.heap.size w w') (ho : w'.ownsRow w.heap.size 126 9 u ss.length (flat (pvals T) ss.length)) : PAt w' ss u := by
  obtain ⟨_, ⟨_, h1⟩ | ⟨g, cap, cur, rfl, hbg, hg, hle, hm, hs, hcur⟩⟩ := ho
  · omega
  · have h0' := h0.trans (hb.mono h0.size)
    refine ⟨g, cap, rfl, (Array.getElem?_eq_some_iff.1 hg).1, fun j hj => ?_⟩
    have hget : ∀ c, c < 9 → w'.cell? ⟨g, j * 9 + c, none⟩ = (pvals T j)[c]? := fun c hc => by
      have h2 := flat_get (f := pvals T) (fun j => pvals_len T j) hj hc
      rw [← hcur, List.getElem?_take, if_pos (by omega)] at h2
      simp only [World.cell?, hg, Option.isSome_none, Bool.false_eq_true, if_false]
      simpa using h2
    obtain ⟨v1, v2, v3, v4⟩ := hi.val j hj hj
    refine ⟨(T j).kv, (T j).vc, (T j).ve, hget 0 (by omega), ?_, hget 2 (by omega), ?_, ?_, ?_, ?_, hget 7 (by omega), hget 8 (by omega), ⟨⟨B, ?_⟩, (hi.vc j hj hj).below h0', (hi.ve j hj hj).below h0'⟩⟩
    · rw [← hi.deep j hj]; exact hget 1 (by omega)
    · rw [← v1]; exact hget 3 (by omega)
    · rw [← v2]; exact hget 4 (by omega)
    · rw [← v3]; exact hget 5 (by omega)
    · rw [← v4]; exact hget 6 (by omega)
    · have hk := hi.kids j hj
      unfold kidsL
      rw [← hk]
      exact (ht.kids j hj).kept (row := none) ⟨hb.os, hb.tape, hb.output, hb.size, fun k hk _ => hb.block k hk⟩ (by cases (T j).kv.ownBlock <;> simp)
set_option maxRecDepth 100000 in
set_option maxHeartbeats 2000000 in
theorem hasKids (x0 x1 : Int) (a : Option Addr) (n cap : Nat) (lo hi : Int) (w : World) (hn : n ≤ 1048576) :
    Calls Tryz.prog 98 #[.agg #[.int .i64 x0, .int .i64 x1, .slice a n cap], .int .i64 lo, .int .i64 hi] w fun e w' => e = .returned (.bool (decide (lo ≤ (n : Int)) && decide ((n : Int) ≤ hi))) ∧ Below w.heap.size w w' := by
  have hB : Below w.heap.size w (w.alloc (.cells #[.int .i64 x0, .int .i64 x1, .slice a n cap] 124)) := (Below.refl _ w).alloc (Nat.le_refl _) _
  by_cases h1 : lo ≤ (n : Int)
  · have HV : Hid ((decide (lo ≤ (n : Int)) && decide ((n : Int) ≤ hi)) = decide ((n : Int) ≤ hi)) := hid (by simp [h1])
    rw [HV.out]
    clear HV
    go_enter Tryz.func98, Tryz.ntmps98
    go_wp2
    go_ret
    exact ⟨rfl, hB⟩
  · have HV : Hid ((decide (lo ≤ (n : Int)) && decide ((n : Int) ≤ hi)) = false) := hid (by simp [h1])
    rw [HV.out]
    clear HV
    go_enter Tryz.func98, Tryz.ntmps98
    go_wp2
    go_ret
    exact ⟨rfl, hB⟩
theorem many_eq {k : Int} {n : Nat} (h : inR k 1 8 = true) (hn : n ≤ 24) : (decide ((ruleD k).lk ≤ (n : Int)) && decide ((n : Int) ≤ (ruleD k).mx)) = manyOk k n := by
  rcases kinds h with rfl | rfl | rfl | rfl | rfl | rfl | rfl | rfl
  · have e : manyOk 1 n = decide (1 ≤ n) := rfl
    rw [e, rule1, Bool.eq_iff_iff]
    simp only [Bool.and_eq_true, decide_eq_true_eq]
    omega
  · have e : manyOk 2 n = decide (n = 0) := rfl
    rw [e, rule2, Bool.eq_iff_iff]
    simp only [Bool.and_eq_true, decide_eq_true_eq]
    omega
  · have e : manyOk 3 n = decide (2 ≤ n) := rfl
    rw [e, rule3, Bool.eq_iff_iff]
    simp only [Bool.and_eq_true, decide_eq_true_eq]
    omega
  · have e : manyOk 4 n = decide (2 ≤ n) := rfl
    rw [e, rule4, Bool.eq_iff_iff]
    simp only [Bool.and_eq_true, decide_eq_true_eq]
    omega
  · have e : manyOk 5 n = decide (n = 0) := rfl
    rw [e, rule5, Bool.eq_iff_iff]
    simp only [Bool.and_eq_true, decide_eq_true_eq]
    omega
  · have e : manyOk 6 n = decide (n = 0) := rfl
    rw [e, rule6, Bool.eq_iff_iff]
    simp only [Bool.and_eq_true, decide_eq_true_eq]
    omega
  · have e : manyOk 7 n = decide (n = 0) := rfl
    rw [e, rule7, Bool.eq_iff_iff]
    simp only [Bool.and_eq_true, decide_eq_true_eq]
    omega
  · have e : manyOk 8 n = decide (n = 2) := rfl
    rw [e, rule8, Bool.eq_iff_iff]
    simp only [Bool.and_eq_true, decide_eq_true_eq]
    omega
theorem last_row {w : World} {B : Nat} {u : Value} {l : List Nat} (h : w.ownsRow B 2 1 u l.length (kidVals l)) (h0 : l ≠ []) : ∃ g cap x, u = .slice (some ⟨g, 0, none⟩) l.length cap ∧ l[l.length - 1]? = some x ∧ w.cell? ⟨g, l.length - 1, none⟩ = some (.int .i64 (x : Int)) ∧ g < w.heap.size := by
  have hl : 0 < l.length := List.length_pos_iff.2 h0
  obtain ⟨_, ⟨_, h1⟩ | ⟨g, cap, cur, rfl, hbg, hg, hle, hm, hs, ht⟩⟩ := h
  · omega
  · have hx : l[l.length - 1]? = some l[l.length - 1] := List.getElem?_eq_getElem (by omega)
    refine ⟨g, cap, l[l.length - 1], rfl, hx, ?_, (Array.getElem?_eq_some_iff.1 hg).1⟩
    have : cur[l.length - 1]? = some (.int .i64 (l[l.length - 1] : Int)) := by
      have h2 := congrArg (·[l.length - 1]?) ht
      simp only [kidVals, Nat.mul_one, List.getElem?_take, List.getElem?_map, hx, Option.map_some, show l.length - 1 < l.length by omega, if_true] at h2
      simpa using h2
    simp [World.cell?, hg, this]
set_option maxRecDepth 100000 in
set_option maxHeartbeats 2000000 in
theorem hasLastKid (x0 x1 : Int) (kv : Value) (l : List Nat) (i : Nat) (w : World) (hn : l.length ≤ 24) (hk : KidsAt w kv l) :
    Calls Tryz.prog 114 #[.agg #[.int .i64 x0, .int .i64 x1, kv], .int .i64 (i : Int)] w fun e w' => e = .returned (.bool (lastIs l i)) ∧ Below w.heap.size w w' := by
  by_cases h0 : l = []
  · obtain ⟨a, cap, rfl⟩ := hk.slice
    have HV : Hid (lastIs l i = false) := hid (by rw [h0]; rfl)
    have hl : l.length = 0 := by rw [h0]; rfl
    clear hk h0
    generalize l.length = m at *
    subst hl
    go_enter Tryz.func114, Tryz.ntmps114
    go_wp2
    go_ret
    exact ⟨by rw [HV.out]; rfl, (Below.refl _ w).alloc (Nat.le_refl _) _⟩
  · obtain ⟨B, ho⟩ := hk
    obtain ⟨g, cap, x, rfl, hx, hcx, hg⟩ := last_row ho h0
    have hpos : 0 < l.length := List.length_pos_iff.2 h0
    have HV : Hid (lastIs l i = ((x : Int) == (i : Int))) := hid (by
      unfold lastIs
      rw [List.getLast?_eq_getElem?, hx]
      by_cases e : x = i
      · simp [e]
      · have h8 : (some x == some i) = false := by simp [e]
        have h9 : ((x : Int) == (i : Int)) = false := beq_eq_false_iff_ne.2 (by omega)
        rw [h8, h9])
    have hcx2 : (w.alloc (.cells #[.int .i64 x0, .int .i64 x1, .slice (some ⟨g, 0, none⟩) l.length cap] 124)).cell? ⟨g, l.length - 1, none⟩ = some (.int .i64 (x : Int)) := (((Below.refl w.heap.size w).alloc (Nat.le_refl _) (.cells #[.int .i64 x0, .int .i64 x1, .slice (some ⟨g, 0, none⟩) l.length cap] 124)).cell (p := ⟨g, l.length - 1, none⟩) hg).trans hcx
    clear ho hx h0
    generalize l.length = m at *
    have hm : ((m : Int) - 1) = ((m - 1 : Nat) : Int) := by omega
    have q0 : (0 : Int) < (m : Int) := by omega
    go_enter Tryz.func114, Tryz.ntmps114
    go_wp2
    go_ret
    exact ⟨by rw [HV.out]; rfl, (Below.refl _ w).alloc (Nat.le_refl _) _⟩
end Pf
end Go.Proofs.YtgghigfflpbjiaaGreatDoor
/- ProcFault of the program, and the steps with their places. Condition: the table of rules lies as its initialiser lays it. -/
namespace Go.Proofs.YtgghigfflpbjiaaGreatDoor
open Go.RowKit
set_option linter.unusedVariables false
namespace Pf
open Ex (hid inR eFault typeCode typeVal implExprFault implTypeOf)
open Nd (NodeD)
open St (StepD)
open Tr (Chain cutTo onPath top nf ElemD)
open Pt (TreeAt Br flat)
set_option maxRecDepth 100000 in
set_option maxHeartbeats 8000000 in
theorem needsCond (ss : List StepD) (u : Value) (j : Nat) (kv vc ve : Value) (w : World) (hl : ss.length ≤ 24) (hj : j < ss.length) (h1 : oneC ss j = 0) (hp : PAt w ss u) (hs : (∃ a n c, kv = .slice a n c) ∧ (∃ a n c, vc = .slice a n c) ∧ (∃ a n c, ve = .slice a n c)) :
    Calls Tryz.prog 99 #[u, .agg #[.int .i64 (j : Int), .int .i64 ((path ss (j + 1)).length : Int), kv, .int .i64 ss[j].kind, .int .i64 ss[j].parent, .string ss[j].name, .int .i64 ss[j].arg, vc, ve]] w fun e w' => e = .returned (.bool (needs ss j)) ∧ Below w.heap.size w w' := by
  obtain ⟨⟨ak, nk, ck, rfl⟩, ⟨ac, nc, cc, rfl⟩, ⟨ae, ne, ce, rfl⟩⟩ := hs
  obtain ⟨hp1, hp2⟩ := par_lt h1
  have hpj : PJ ss j = ss[j] := PJ_eq hj
  have hB : Below w.heap.size w (w.alloc (.cells #[.int .i64 (j : Int), .int .i64 ((path ss (j + 1)).length : Int), .slice ak nk ck, .int .i64 ss[j].kind, .int .i64 ss[j].parent, .string ss[j].name, .int .i64 ss[j].arg, .slice ac nc cc, .slice ae ne ce] 126)) := (Below.refl _ w).alloc (Nat.le_refl _) _
  have HP := hid (hp.below hB)
  obtain ⟨g0, cap0, rfl, hg0, _⟩ := hp
  rw [hpj] at hp1 hp2
  by_cases hm : ss[j].parent = -1
  · have HV : Hid (needs ss j = false) := hid (by unfold needs; rw [hpj, hm]; rfl)
    have b1 : (ss[j].parent == -1) = true := beq_iff_eq.2 hm
    clear hm h1
    go_enter Tryz.func99, Tryz.ntmps99
    go_wp2
    go_ret
    exact ⟨by rw [HV.out]; rfl, hB⟩
  · have b1 : (ss[j].parent == -1) = false := beq_eq_false_iff_ne.2 hm
    obtain ⟨p, hpp⟩ : ∃ p : Nat, ss[j].parent = (p : Int) := ⟨ss[j].parent.toNat, by omega⟩
    have hpl : p < ss.length := by omega
    have HN : Hid (needs ss j = ((ss[p].kind == 3) && !lastIs (kidsL ss p) j)) := hid (by
      unfold needs
      rw [hpj, hpp, Int.toNat_natCast, PJ_eq hpl]
      have : (0 : Int) ≤ (p : Int) := by omega
      simp [this])
    have hkl : (kidsL ss p).length ≤ 24 := by have := kidsN_le ss ss.length p; unfold kidsL; omega
    have q3 : (p : Int) < (ss.length : Int) := by omega
    obtain ⟨g, cap, e', hg, hc⟩ := HP.out
    cases e'
    obtain ⟨kv, vc, ve, d0, d1, d2, d3, d4, d5, d6, d7, d8, hpc⟩ := hc p hpl
    obtain ⟨ak2, ck2, rfl⟩ := hpc.kids.slice
    obtain ⟨ac2, cc2, rfl⟩ := hpc.cond.slice
    obtain ⟨ae2, ce2, rfl⟩ := hpc.expr.slice
    have HKD := hid hpc.kids
    have HB := hid hB
    rw [hpp] at *
    clear hc hpc hm hp1 hp2 hpp hpj h1 hB HP
    generalize (path ss (p + 1)).length = dpp at *
    generalize (path ss (j + 1)).length = dpj at *
    have hzA : (w.alloc (.cells #[.int .i64 (j : Int), .int .i64 (dpj : Int), .slice ak nk ck, .int .i64 ss[j].kind, .int .i64 (p : Int), .string ss[j].name, .int .i64 ss[j].arg, .slice ac nc cc, .slice ae ne ce] 126)).heap.size = w.heap.size + 1 := by simp
    have hxB : Below (w.heap.size + 1) (w.alloc (.cells #[.int .i64 (j : Int), .int .i64 (dpj : Int), .slice ak nk ck, .int .i64 ss[j].kind, .int .i64 (p : Int), .string ss[j].name, .int .i64 ss[j].arg, .slice ac nc cc, .slice ae ne ce] 126)) ((w.alloc (.cells #[.int .i64 (j : Int), .int .i64 (dpj : Int), .slice ak nk ck, .int .i64 ss[j].kind, .int .i64 (p : Int), .string ss[j].name, .int .i64 ss[j].arg, .slice ac nc cc, .slice ae ne ce] 126)).alloc (.cells #[.int .i64 (p : Int), .int .i64 (dpp : Int), .slice ak2 (kidsL ss p).length ck2, .int .i64 ss[p].kind, .int .i64 ss[p].parent, .string ss[p].name, .int .i64 ss[p].arg, .slice ac2 ss[p].cond.length cc2, .slice ae2 ss[p].expr.length ce2] 126)) := (Below.refl _ _).alloc (Nat.le_of_eq hzA.symm) _
    have HK2 := hid (HKD.out.below (by rw [hzA]; exact hxB))
    have HB2 := hid (HB.out.trans (hxB.mono (by omega)))
    clear hxB HKD
    cases hk : (ss[p].kind == 3)
    · have HV : Hid (needs ss j = false) := hid (by rw [HN.out, hk]; rfl)
      go_enter Tryz.func99, Tryz.ntmps99
      go_wp2
      go_ret
      exact ⟨by rw [HV.out]; rfl, HB2.out⟩
    · have HV : Hid (needs ss j = !lastIs (kidsL ss p) j) := hid (by rw [HN.out, hk]; rfl)
      have HL := hid (hasLastKid (p : Int) (dpp : Int) _ (kidsL ss p) j _ hkl HK2.out)
      go_enter Tryz.func99, Tryz.ntmps99
      go_wp2_with fail
      refine HL.out.mono ?_
      rintro e w1 ⟨rfl, hb1⟩
      have hB3 := HB2.out.trans (hb1.mono HB2.out.size)
      clear HL HK2
      go_wp2
      go_ret
      exact ⟨by rw [HV.out]; rfl, hB3⟩
set_option maxRecDepth 100000 in
set_option maxHeartbeats 16000000 in
theorem linksFault (ss : List StepD) (u : Value) (j : Nat) (kv vc ve : Value) (w : World) (hl : ss.length ≤ 24) (hsm : St.Small 1048576 ss) (hj : j < ss.length) (h1 : oneC ss j = 0) (hp : PAt w ss u) (hc : PCells w ss j hj kv vc ve) (hr : Rul w) :
    Calls Tryz.prog 76 #[u, .agg #[.int .i64 (j : Int), .int .i64 ((path ss (j + 1)).length : Int), kv, .int .i64 ss[j].kind, .int .i64 ss[j].parent, .string ss[j].name, .int .i64 ss[j].arg, vc, ve]] w fun e w' => e = .returned (.int .i64 (linkC ss j)) ∧ Below w.heap.size w w' := by
  obtain ⟨ak, ck, rfl⟩ := hc.kids.slice
  obtain ⟨ac, cc, rfl⟩ := hc.cond.slice
  obtain ⟨ae, ce, rfl⟩ := hc.expr.slice
  have hpj : PJ ss j = ss[j] := PJ_eq hj
  have hk : inR ss[j].kind 1 8 = true := by
    have h := (of_one h1).1
    rw [hpj] at h
    unfold formOk at h
    simp only [Bool.and_eq_true] at h
    exact h.1
  have hgl := hr.lt
  have hsj := hsm.at hj
  have sc := hsj.2.1
  have hkl : (kidsL ss j).length ≤ 24 := by have := kidsN_le ss ss.length j; unfold kidsL; omega
  have HM := hid (many_eq hk hkl)
  have HV1 := hid (link_many (ss := ss) (i := j))
  have HV2 := hid (link_need (ss := ss) (i := j))
  have HV3 := hid (link_cond (ss := ss) (i := j))
  have HV4 := hid (link_ok (ss := ss) (i := j))
  rw [hpj] at HV1 HV2 HV3 HV4
  have hBA : Below w.heap.size w (w.alloc (.cells #[.int .i64 (j : Int), .int .i64 ((path ss (j + 1)).length : Int), .slice ak (kidsL ss j).length ck, .int .i64 ss[j].kind, .int .i64 ss[j].parent, .string ss[j].name, .int .i64 ss[j].arg, .slice ac ss[j].cond.length cc, .slice ae ss[j].expr.length ce] 126)) := (Below.refl _ w).alloc (Nat.le_refl _) _
  have HBA := hid hBA
  have HRU := hid (ruleOk ss[j].kind _ hk (hr.below hBA hgl))
  have HND : Hid (∀ wx, Below w.heap.size w wx → Calls Tryz.prog 99 #[u, .agg #[.int .i64 (j : Int), .int .i64 ((path ss (j + 1)).length : Int), .slice ak (kidsL ss j).length ck, .int .i64 ss[j].kind, .int .i64 ss[j].parent, .string ss[j].name, .int .i64 ss[j].arg, .slice ac ss[j].cond.length cc, .slice ae ss[j].expr.length ce]] wx fun e w' => e = .returned (.bool (needs ss j)) ∧ Below wx.heap.size wx w') := hid (fun wx hb => needsCond ss u j _ _ _ wx hl hj h1 (hp.below hb) ⟨⟨_, _, _, rfl⟩, ⟨_, _, _, rfl⟩, ⟨_, _, _, rfl⟩⟩)
  have HEX : Hid (∀ wx, Below w.heap.size w wx → Calls Tryz.prog 100 #[.slice ac ss[j].cond.length cc] wx fun e w' => e = .returned (.int .i64 (eFault ss[j].cond)) ∧ Below wx.heap.size wx w') := hid (fun wx hb => implExprFault 0 ss[j].cond _ wx (by omega) (hc.cond.below hb))
  obtain ⟨gu, cu, rfl, hgu, _⟩ := hp
  clear hc hr hpj hk hsj h1 hsm hBA
  have hzA : (w.alloc (.cells #[.int .i64 (j : Int), .int .i64 ((path ss (j + 1)).length : Int), .slice ak (kidsL ss j).length ck, .int .i64 ss[j].kind, .int .i64 ss[j].parent, .string ss[j].name, .int .i64 ss[j].arg, .slice ac ss[j].cond.length cc, .slice ae ss[j].expr.length ce] 126)).heap.size = w.heap.size + 1 := by simp
  have mA : ∀ o x, #[.int .i64 (j : Int), .int .i64 ((path ss (j + 1)).length : Int), .slice ak (kidsL ss j).length ck, .int .i64 ss[j].kind, .int .i64 ss[j].parent, .string ss[j].name, .int .i64 ss[j].arg, .slice ac ss[j].cond.length cc, .slice ae ss[j].expr.length ce][o]? = some x → (w.alloc (.cells #[.int .i64 (j : Int), .int .i64 ((path ss (j + 1)).length : Int), .slice ak (kidsL ss j).length ck, .int .i64 ss[j].kind, .int .i64 ss[j].parent, .string ss[j].name, .int .i64 ss[j].arg, .slice ac ss[j].cond.length cc, .slice ae ss[j].expr.length ce] 126)).cell? ⟨w.heap.size, o, none⟩ = some x := fun o x hx => by
    have e : (w.alloc (.cells #[.int .i64 (j : Int), .int .i64 ((path ss (j + 1)).length : Int), .slice ak (kidsL ss j).length ck, .int .i64 ss[j].kind, .int .i64 ss[j].parent, .string ss[j].name, .int .i64 ss[j].arg, .slice ac ss[j].cond.length cc, .slice ae ss[j].expr.length ce] 126)).heap[w.heap.size]? = some (.cells #[.int .i64 (j : Int), .int .i64 ((path ss (j + 1)).length : Int), .slice ak (kidsL ss j).length ck, .int .i64 ss[j].kind, .int .i64 ss[j].parent, .string ss[j].name, .int .i64 ss[j].arg, .slice ac ss[j].cond.length cc, .slice ae ss[j].expr.length ce] 126 (0, 0)) := World.alloc_heap_new w _
    simp only [World.cell?, e]
    exact hx
  have MA := hid mA
  clear mA
  go_enter Tryz.func76, Tryz.ntmps76
  go_wp2_with fail
  refine HRU.out.mono ?_
  rintro e w1 ⟨rfl, hb1⟩
  generalize ruleD ss[j].kind = r at *
  unfold RuleD.row
  have HB1 := hid (HBA.out.trans (hb1.mono HBA.out.size))
  have hz1 : w.heap.size + 1 ≤ w1.heap.size := by have := hb1.size; omega
  have hxB : Below w1.heap.size w1 (w1.alloc (.cells #[.string r.word, .bool r.hn, .bool r.he, .int .i64 r.la, .int .i64 r.ma, .int .i64 r.lk, .int .i64 r.mx] 82)) := (Below.refl _ w1).alloc (Nat.le_refl _) _
  have HB2 := hid (HB1.out.trans (hxB.mono HB1.out.size))
  have MB : Hid (∀ o x, #[.int .i64 (j : Int), .int .i64 ((path ss (j + 1)).length : Int), .slice ak (kidsL ss j).length ck, .int .i64 ss[j].kind, .int .i64 ss[j].parent, .string ss[j].name, .int .i64 ss[j].arg, .slice ac ss[j].cond.length cc, .slice ae ss[j].expr.length ce][o]? = some x → (w1.alloc (.cells #[.string r.word, .bool r.hn, .bool r.he, .int .i64 r.la, .int .i64 r.ma, .int .i64 r.lk, .int .i64 r.mx] 82)).cell? ⟨w.heap.size, o, none⟩ = some x) := hid (fun o x hx => blw_cell hxB (by omega) o x (blw_cell hb1 (by omega) o x (MA.out o x hx)))
  have b0 := MB.out 0 _ rfl
  have b1 := MB.out 1 _ rfl
  have b2 := MB.out 2 _ rfl
  have hzB : (w1.alloc (.cells #[.string r.word, .bool r.hn, .bool r.he, .int .i64 r.la, .int .i64 r.ma, .int .i64 r.lk, .int .i64 r.mx] 82)).heap.size = w1.heap.size + 1 := by simp
  have hlB : w.heap.size < (w1.alloc (.cells #[.string r.word, .bool r.hn, .bool r.he, .int .i64 r.la, .int .i64 r.ma, .int .i64 r.lk, .int .i64 r.mx] 82)).heap.size := by omega
  have n5 : (w1.alloc (.cells #[.string r.word, .bool r.hn, .bool r.he, .int .i64 r.la, .int .i64 r.ma, .int .i64 r.lk, .int .i64 r.mx] 82)).cell? ⟨w1.heap.size, 5, none⟩ = some (.int .i64 r.lk) := by go_simp
  have n6 : (w1.alloc (.cells #[.string r.word, .bool r.hn, .bool r.he, .int .i64 r.la, .int .i64 r.ma, .int .i64 r.lk, .int .i64 r.mx] 82)).cell? ⟨w1.heap.size, 6, none⟩ = some (.int .i64 r.mx) := by go_simp
  have hlr : w1.heap.size < (w1.alloc (.cells #[.string r.word, .bool r.hn, .bool r.he, .int .i64 r.la, .int .i64 r.ma, .int .i64 r.lk, .int .i64 r.mx] 82)).heap.size := by omega
  clear hxB hb1 HBA HB1 MA HRU hzA
  go_wp2_with fail
  generalize w1.alloc (.cells #[.string r.word, .bool r.hn, .bool r.he, .int .i64 r.la, .int .i64 r.ma, .int .i64 r.lk, .int .i64 r.mx] 82) = wB at *
  refine (hasKids _ _ ak (kidsL ss j).length ck r.lk r.mx wB (by omega)).mono ?_
  rintro e w2 ⟨rfl, hb2⟩
  rw [HM.out]
  have HB3 := hid (HB2.out.trans (hb2.mono HB2.out.size))
  have MC : Hid (∀ o x, #[.int .i64 (j : Int), .int .i64 ((path ss (j + 1)).length : Int), .slice ak (kidsL ss j).length ck, .int .i64 ss[j].kind, .int .i64 ss[j].parent, .string ss[j].name, .int .i64 ss[j].arg, .slice ac ss[j].cond.length cc, .slice ae ss[j].expr.length ce][o]? = some x → w2.cell? ⟨w.heap.size, o, none⟩ = some x) := hid (fun o x hx => blw_cell hb2 hlB o x (MB.out o x hx))
  have hl2 : w.heap.size < w2.heap.size := Nat.lt_of_lt_of_le hlB hb2.size
  clear hb2 MB HB2 b0 b1 b2 n5 n6 HM
  cases hm : manyOk ss[j].kind (kidsL ss j).length
  · have HV := hid (HV1.out hm)
    clear hm
    go_wp2
    go_ret
    exact ⟨by rw [HV.out]; rfl, HB3.out⟩
  have HV2x := hid (HV2.out hm)
  have HV3x := hid (HV3.out hm)
  have HV4x := hid (HV4.out hm)
  clear HV1 HV2 HV3 HV4 hm
  have b0 := MC.out 0 _ rfl
  have b1 := MC.out 1 _ rfl
  have b2 := MC.out 2 _ rfl
  have b3 := MC.out 3 _ rfl
  have b4 := MC.out 4 _ rfl
  have b5 := MC.out 5 _ rfl
  have b6 := MC.out 6 _ rfl
  have b7 := MC.out 7 _ rfl
  have b8 := MC.out 8 _ rfl
  have HN2 := hid (HND.out _ HB3.out)
  clear HND
  by_cases hcn : 0 < ss[j].cond.length
  · have t1 : (0 : Int) < (ss[j].cond.length : Int) := by omega
    have td : decide (0 < ss[j].cond.length) = true := by simp [hcn]
    cases hn : needs ss j
    · have HV := hid (HV2x.out (by simp [hn, hcn]))
      rw [hn] at HN2
      clear hn HV2x HV3x HV4x
      go_wp2_with fail
      refine HN2.out.mono ?_
      rintro e w3 ⟨rfl, hb3⟩
      have HB4 := hid (HB3.out.trans (hb3.mono HB3.out.size))
      go_wp2
      go_ret
      exact ⟨by rw [HV.out]; rfl, HB4.out⟩
    · have HV := hid (HV3x.out (by simp [hn, hcn]) hcn)
      rw [hn] at HN2
      clear hn HV2x HV3x HV4x
      go_wp2_with fail
      refine HN2.out.mono ?_
      rintro e w3 ⟨rfl, hb3⟩
      have HB4 := hid (HB3.out.trans (hb3.mono HB3.out.size))
      have d7 := blw_cell hb3 hl2 _ _ b7
      have hl3 : w.heap.size < w3.heap.size := Nat.lt_of_lt_of_le hl2 hb3.size
      have HE2 := hid (HEX.out _ HB4.out)
      clear HN2 hb3 b0 b1 b2 b3 b4 b5 b6 b7 b8 MC HEX
      go_wp2_with fail
      refine HE2.out.mono ?_
      rintro e w4 ⟨rfl, hb4⟩
      have HB5 := hid (HB4.out.trans (hb4.mono HB4.out.size))
      go_wp2
      go_ret
      exact ⟨by rw [HV.out]; rfl, HB5.out⟩
  · have t1 : ¬ (0 : Int) < (ss[j].cond.length : Int) := by omega
    have td : decide (0 < ss[j].cond.length) = false := by simp [hcn]
    cases hn : needs ss j
    · have HV := hid (HV4x.out (by simp [hn, hcn]) hcn)
      rw [hn] at HN2
      clear hn HV2x HV3x HV4x
      go_wp2_with fail
      refine HN2.out.mono ?_
      rintro e w3 ⟨rfl, hb3⟩
      have HB4 := hid (HB3.out.trans (hb3.mono HB3.out.size))
      go_wp2
      go_ret
      exact ⟨by rw [HV.out]; rfl, HB4.out⟩
    · have HV := hid (HV2x.out (by simp [hn, hcn]))
      rw [hn] at HN2
      clear hn HV2x HV3x HV4x
      go_wp2_with fail
      refine HN2.out.mono ?_
      rintro e w3 ⟨rfl, hb3⟩
      have HB4 := hid (HB3.out.trans (hb3.mono HB3.out.size))
      go_wp2
      go_ret
      exact ⟨by rw [HV.out]; rfl, HB4.out⟩
set_option maxRecDepth 100000 in
set_option maxHeartbeats 4000000 in
theorem typeFault (B : Nat) (e : List NodeD) (v : Value) (want : Int) (w : World) (hl : e.length ≤ 1048576) (ha : Nd.At w B v e) :
    Calls Tryz.prog 101 #[v, .int .i64 want] w fun r w' => r = .returned (.int .i64 (tyC e want)) ∧ Below w.heap.size w w' := by
  have HT := hid (implTypeOf B e v w hl ha)
  obtain ⟨a, cap, rfl⟩ := ha.slice
  clear ha
  by_cases h0 : e.length = 0
  · have b0 : ((e.length : Int) == 0) = true := by simp [h0]
    have HV := hid (ty_nil (want := want) h0)
    clear h0
    go_enter Tryz.func101, Tryz.ntmps101
    go_wp2
    go_ret
    exact ⟨by rw [HV.out]; rfl, Below.refl _ _⟩
  · have b0 : ((e.length : Int) == 0) = false := beq_eq_false_iff_ne.2 (by omega)
    have HV1 := hid (ty_code (want := want) h0)
    have HV2 := hid (ty_type (want := want) h0)
    have HV3 := hid (ty_ok (want := want) h0)
    clear h0
    generalize typeCode e = tc at *
    generalize typeVal e = tv at *
    go_enter Tryz.func101, Tryz.ntmps101
    go_wp2_with fail
    refine HT.out.mono ?_
    rintro r w1 ⟨rfl, hb1⟩
    have HB1 : Hid (Below w.heap.size w (w1.alloc (.cells #[.int .i64 tc, .int .i64 tv] 170))) := hid (hb1.alloc hb1.size _)
    clear HT
    by_cases h1 : tc = 0
    · have b1 : (tc != 0) = false := by simp [h1]
      by_cases h2 : tv = want
      · have b2 : (tv != want) = false := by simp [h2]
        have HV := hid (HV3.out h1 h2)
        clear h1 h2 HV1 HV2 HV3
        go_wp2
        go_ret
        exact ⟨by rw [HV.out]; rfl, HB1.out⟩
      · have b2 : (tv != want) = true := bne_iff_ne.2 h2
        have HV := hid (HV2.out h1 h2)
        clear h1 h2 HV1 HV2 HV3
        go_wp2
        go_ret
        exact ⟨by rw [HV.out]; rfl, HB1.out⟩
    · have b1 : (tc != 0) = true := bne_iff_ne.2 h1
      have HV := hid (HV1.out h1)
      clear h1 HV1 HV2 HV3
      go_wp2
      go_ret
      exact ⟨by rw [HV.out]; rfl, HB1.out⟩
set_option maxRecDepth 100000 in
set_option maxHeartbeats 4000000 in
theorem typesFault (ss : List StepD) (j : Nat) (kv vc ve : Value) (w : World) (hsm : St.Small 1048576 ss) (hj : j < ss.length) (hc : PCells w ss j hj kv vc ve) :
    Calls Tryz.prog 77 #[.agg #[.int .i64 (j : Int), .int .i64 ((path ss (j + 1)).length : Int), kv, .int .i64 ss[j].kind, .int .i64 ss[j].parent, .string ss[j].name, .int .i64 ss[j].arg, vc, ve]] w fun e w' => e = .returned (.int .i64 (typC ss j)) ∧ Below w.heap.size w w' := by
  obtain ⟨ak, ck, rfl⟩ := hc.kids.slice
  obtain ⟨ac, cc, rfl⟩ := hc.cond.slice
  obtain ⟨ae, ce, rfl⟩ := hc.expr.slice
  have hsj := hsm.at hj
  have sc := hsj.2.1
  have se := hsj.2.2
  have hBA : Below w.heap.size w (w.alloc (.cells #[.int .i64 (j : Int), .int .i64 ((path ss (j + 1)).length : Int), .slice ak (kidsL ss j).length ck, .int .i64 ss[j].kind, .int .i64 ss[j].parent, .string ss[j].name, .int .i64 ss[j].arg, .slice ac ss[j].cond.length cc, .slice ae ss[j].expr.length ce] 126)) := (Below.refl _ w).alloc (Nat.le_refl _) _
  have HC := hid (typeFault 0 ss[j].cond _ 2 _ (by omega) (hc.cond.below hBA))
  have HE : Hid (∀ wx, Below w.heap.size w wx → Calls Tryz.prog 101 #[.slice ae ss[j].expr.length ce, .int .i64 1] wx fun r w' => r = .returned (.int .i64 (tyC ss[j].expr 1)) ∧ Below wx.heap.size wx w') := hid (fun wx hb => typeFault 0 ss[j].expr _ 1 wx (by omega) (hc.expr.below hb))
  have htj : typC ss j = if tyC ss[j].cond 2 ≠ 0 then tyC ss[j].cond 2 else tyC ss[j].expr 1 := by unfold typC; rw [PJ_eq hj]
  have HTJ := hid htj
  have HBA := hid hBA
  clear hc hsj hsm htj hBA
  generalize tyC ss[j].cond 2 = t1 at *
  generalize tyC ss[j].expr 1 = t2 at *
  go_enter Tryz.func77, Tryz.ntmps77
  go_wp2_with fail
  refine HC.out.mono ?_
  rintro e w1 ⟨rfl, hb1⟩
  have d8 := (hb1.cell (p := ⟨w.heap.size, 8, none⟩) (by simp)).trans (show _ = some (.slice ae ss[j].expr.length ce) by go_simp)
  have hl1 : w.heap.size < w1.heap.size := by have := hb1.size; simp at this; omega
  have HB1 := hid (HBA.out.trans (hb1.mono HBA.out.size))
  clear hb1 HC HBA
  by_cases hz1 : t1 = 0
  · have b1 : (t1 != 0) = false := by simp [hz1]
    have HT1 : Hid (typC ss j = t2) := hid (by rw [HTJ.out, if_neg (by simp [hz1])])
    have HE2 := hid (HE.out _ HB1.out)
    clear hz1 HE
    go_wp2_with fail
    refine HE2.out.mono ?_
    rintro e w3 ⟨rfl, hb3⟩
    have hB3 := HB1.out.trans (hb3.mono HB1.out.size)
    go_wp2
    go_ret
    exact ⟨by rw [HT1.out]; rfl, hB3⟩
  · have b1 : (t1 != 0) = true := bne_iff_ne.2 hz1
    have HT1 : Hid (typC ss j = t1) := hid (by rw [HTJ.out, if_pos hz1])
    clear hz1 HE
    go_wp2
    go_ret
    exact ⟨by rw [HT1.out]; rfl, HB1.out⟩
/-- A slice is not longer than its capacity. -/
def capOk (u : Value) : Prop := ∀ a n cap, u = .slice a n cap → n ≤ cap ∧ cap ≤ maxLen
theorem cap_of {w : World} {B n sz : Nat} {e : TypeId} {u : Value} {xs : List Value} (h : w.ownsRow B e sz u n xs) : capOk u := by
  obtain ⟨_, ⟨rfl, _⟩ | ⟨g, cap, cur, rfl, hbg, hg, hle, hm, hs, ht⟩⟩ := h
  · intro a m c e; cases e; exact ⟨Nat.le_refl _, Nat.zero_le _⟩
  · intro a m c e; cases e; exact ⟨hle, hm⟩
set_option maxRecDepth 100000 in
set_option maxHeartbeats 16000000 in
theorem procStepsC (ss : List StepD) (v : Value) (w : World) (hsm : St.Small 1048576 ss) (ha : St.At w 0 v ss) (hr : Rul w) :
    Calls Tryz.prog 46 #[v] w fun e w' => (∃ u, e = .returned (.tuple #[u, .int .i64 (pFault ss)]) ∧ (pFault ss ≠ 0 → u = .slice none 0 0) ∧ (pFault ss = 0 → PAt w' ss u ∧ capOk u)) ∧ Below w.heap.size w w' := by
  have HT := hid (stepTree ss v w hsm ha hr)
  have HR := hid hr
  have hgl := hr.lt
  obtain ⟨a, cap, rfl⟩ := ha.slice
  have HSM := hid hsm
  have hlen := hsm.1
  clear ha hsm hr
  by_cases hf1 : fault1 ss = 0
  · have hz : ¬ (ss.length < 1 ∨ 24 < ss.length) := fun h => by rw [f1_many h] at hf1; omega
    have HZ := hid hz
    have h1 : firstC (oneC ss) ss.length = 0 := by unfold fault1 at hf1; rw [if_neg hz] at hf1; exact hf1
    have H1 := hid h1
    have hl : ss.length ≤ 24 := by omega
    have hl1 : 1 ≤ ss.length := by omega
    have HF := hid hf1
    clear hz h1 hf1
    go_enter Tryz.func46, Tryz.ntmps46
    go_wp2_with fail
    refine HT.out.mono ?_
    rintro e w1 ⟨⟨v', rfl, _, hv2⟩, hb1⟩
    obtain ⟨T, hT, hI⟩ := hv2 HF.out
    rw [HF.out]
    have HP := hid (placeSteps T w.heap.size ss.length v' w1 hl hT (fun j hj => ⟨by obtain ⟨x, y, h⟩ := (hI.vc j hj hj).slice; exact ⟨_, _, _, h⟩, by obtain ⟨x, y, h⟩ := (hI.ve j hj hj).slice; exact ⟨_, _, _, h⟩⟩))
    obtain ⟨a1, c1, rfl⟩ := hT.slice
    have HTT := hid hT
    have HII := hid hI
    have HB1 := hid hb1
    clear hv2 hT hI hb1 HT HF
    go_wp2_with fail
    refine HP.out.mono ?_
    rintro e w2 ⟨⟨u, rfl, ho⟩, hb2⟩
    have hPA : PAt w2 ss u := PAt.of (by omega) HTT.out HII.out HB1.out hb2 ho
    obtain ⟨gu, cu, rfl, _⟩ := hPA
    have hPA : PAt w2 ss (.slice (some ⟨gu, 0, none⟩) ss.length cu) := PAt.of (by omega) HTT.out HII.out HB1.out hb2 ho
    have HPA := hid hPA
    have HCP := hid (cap_of ho)
    have HB2 := hid (HB1.out.trans (hb2.mono HB1.out.size))
    clear ho hb2 hPA HTT HII HP HB1
    go_wp2
    go_loopw [8, 9, 25] (fun _ _ x wr => ∃ j : Nat, x = .int .i64 j ∧ j ≤ ss.length ∧ Hid (firstC (linkC ss) j = 0) ∧ Hid (Below w2.heap.size w2 wr)) (fun _ _ x _ => ss.length - (intOf x).toNat)
    case atStart => exact ⟨0, rfl, Nat.zero_le _, hid rfl, hid (Below.refl _ _)⟩
    case round =>
      obtain ⟨j, rfl, hjl, HL, HBR⟩ := hrel
      have HBW := hid (HB2.out.trans (HBR.out.mono HB2.out.size))
      by_cases hlt : j < ss.length
      · have hP := HPA.out.below HBR.out
        obtain ⟨g', cap', e', hg, hc⟩ := hP
        cases e'
        obtain ⟨kv, vc, ve, d0, d1, d2, d3, d4, d5, d6, d7, d8, hpc⟩ := hc j hlt
        clear hc
        have hxA : Below wr.heap.size wr (wr.alloc (.cells #[.int .i64 (j : Int), .int .i64 ((path ss (j + 1)).length : Int), kv, .int .i64 ss[j].kind, .int .i64 ss[j].parent, .string ss[j].name, .int .i64 ss[j].arg, vc, ve] 126)) := (Below.refl _ wr).alloc (Nat.le_refl _) _
        have HB3 := hid (HBW.out.trans (hxA.mono HBW.out.size))
        have HLF := hid (linksFault ss _ j kv vc ve _ hl HSM.out hlt (first_all H1.out hlt) ((HPA.out.below HBR.out).below hxA) (hpc.below hxA) (HR.out.below HB3.out hgl))
        have HB4 := hid (HBR.out.trans (hxA.mono HBR.out.size))
        obtain ⟨ak, ck, rfl⟩ := hpc.kids.slice
        obtain ⟨ac, cc, rfl⟩ := hpc.cond.slice
        obtain ⟨ae, ce, rfl⟩ := hpc.expr.slice
        have q1 : (j : Int) < (ss.length : Int) := by omega
        have HBad := hid (fun (h : linkC ss j ≠ 0) => p_link HZ.out H1.out hlt HL.out h)
        have HNx := hid (fun (h : linkC ss j = 0) => first_next HL.out h)
        clear hpc hxA
        generalize linkC ss j = lc at *
        go_wp2_with fail
        refine HLF.out.mono ?_
        rintro e w3 ⟨rfl, hb3⟩
        have HB5 := hid (HB3.out.trans (hb3.mono HB3.out.size))
        have HB6 := hid (HB4.out.trans (hb3.mono HB4.out.size))
        clear hb3 HLF
        by_cases hz : lc = 0
        · have b1 : (lc != 0) = false := by simp [hz]
          have HN := hid (HNx.out hz)
          clear hz HBad HNx
          go_wp2
          exact ⟨⟨j + 1, by simp, by omega, HN, HB6⟩, by simp [intOf]; omega⟩
        · have b1 : (lc != 0) = true := bne_iff_ne.2 hz
          have HV := hid (HBad.out hz)
          have HNZ := hid hz
          clear hz HBad HNx
          go_wp2
          go_ret2
          exact ⟨⟨_, by rw [HV.out]; rfl, fun _ => rfl, fun e => absurd (by rw [← HV.out]; exact e) HNZ.out⟩, HB5.out⟩
      · have hjn : j = ss.length := by omega
        rw [hjn] at HL
        have H2 := HL
        clear hjn
        go_wp2
        go_loopw [11, 12, 38] (fun _ _ x wr => ∃ j : Nat, x = .int .i64 j ∧ j ≤ ss.length ∧ Hid (firstC (typC ss) j = 0) ∧ Hid (Below w2.heap.size w2 wr)) (fun _ _ x _ => ss.length - (intOf x).toNat)
        case atStart => exact ⟨0, rfl, Nat.zero_le _, hid rfl, HBR⟩
        case round =>
          obtain ⟨k, rfl, hkl, HK, HBK⟩ := hrel
          have HBW2 := hid (HB2.out.trans (HBK.out.mono HB2.out.size))
          by_cases hlk : k < ss.length
          · have hP := HPA.out.below HBK.out
            obtain ⟨g', cap', e', hg, hc⟩ := hP
            cases e'
            obtain ⟨kv, vc, ve, d0, d1, d2, d3, d4, d5, d6, d7, d8, hpc⟩ := hc k hlk
            clear hc
            have hxA : Below wr.heap.size wr (wr.alloc (.cells #[.int .i64 (k : Int), .int .i64 ((path ss (k + 1)).length : Int), kv, .int .i64 ss[k].kind, .int .i64 ss[k].parent, .string ss[k].name, .int .i64 ss[k].arg, vc, ve] 126)) := (Below.refl _ wr).alloc (Nat.le_refl _) _
            have HTF := hid (typesFault ss k kv vc ve _ HSM.out hlk (hpc.below hxA))
            have HB3 := hid (HBW2.out.trans (hxA.mono HBW2.out.size))
            have HB4 := hid (HBK.out.trans (hxA.mono HBK.out.size))
            obtain ⟨ak, ck, rfl⟩ := hpc.kids.slice
            obtain ⟨ac, cc, rfl⟩ := hpc.cond.slice
            obtain ⟨ae, ce, rfl⟩ := hpc.expr.slice
            have q1 : (k : Int) < (ss.length : Int) := by omega
            have HBad := hid (fun (h : typC ss k ≠ 0) => p_typ HZ.out H1.out H2.out hlk HK.out h)
            have HNx := hid (fun (h : typC ss k = 0) => first_next HK.out h)
            clear hpc hxA
            generalize typC ss k = lc at *
            go_wp2_with fail
            refine HTF.out.mono ?_
            rintro e w3 ⟨rfl, hb3⟩
            have HB5 := hid (HB3.out.trans (hb3.mono HB3.out.size))
            have HB6 := hid (HB4.out.trans (hb3.mono HB4.out.size))
            clear hb3 HTF
            by_cases hz : lc = 0
            · have b1 : (lc != 0) = false := by simp [hz]
              have HN := hid (HNx.out hz)
              clear hz HBad HNx
              go_wp2
              exact ⟨⟨k + 1, by simp, by omega, HN, HB6⟩, by simp [intOf]; omega⟩
            · have b1 : (lc != 0) = true := bne_iff_ne.2 hz
              have HV := hid (HBad.out hz)
              have HNZ := hid hz
              clear hz HBad HNx
              go_wp2
              go_ret2
              exact ⟨⟨_, by rw [HV.out]; rfl, fun _ => rfl, fun e => absurd (by rw [← HV.out]; exact e) HNZ.out⟩, HB5.out⟩
          · have hkn : k = ss.length := by omega
            rw [hkn] at HK
            have HV := hid (p_ok HZ.out H1.out H2.out HK.out)
            clear hkn
            go_wp2
            go_ret2
            exact ⟨⟨_, by rw [HV.out]; rfl, fun e => absurd HV.out e, fun _ => ⟨HPA.out.below HBK.out, HCP.out⟩⟩, HBW2.out⟩
  · have HV : Hid (pFault ss = fault1 ss) := hid (by
      unfold fault1 at hf1 ⊢
      unfold pFault
      by_cases h : ss.length < 1 ∨ 24 < ss.length
      · rw [if_pos h, if_pos h]
      · rw [if_neg h] at hf1
        rw [if_neg h, if_neg h, if_pos hf1])
    have b1 : (fault1 ss != 0) = true := bne_iff_ne.2 hf1
    have HN := hid hf1
    clear hf1
    go_enter Tryz.func46, Tryz.ntmps46
    go_wp2_with fail
    refine HT.out.mono ?_
    rintro e w1 ⟨⟨v', rfl, hv1, _⟩, hb1⟩
    obtain rfl := hv1 HN.out
    clear hv1
    go_wp2
    go_ret2
    exact ⟨⟨_, by rw [HV.out]; rfl, fun _ => rfl, fun e => absurd (by rw [← HV.out]; exact e) HN.out⟩, hb1⟩
theorem procSteps (ss : List StepD) (v : Value) (w : World) (hsm : St.Small 1048576 ss) (ha : St.At w 0 v ss) (hr : Rul w) :
    Calls Tryz.prog 46 #[v] w fun e w' => (∃ u, e = .returned (.tuple #[u, .int .i64 (pFault ss)]) ∧ (pFault ss ≠ 0 → u = .slice none 0 0) ∧ (pFault ss = 0 → PAt w' ss u)) ∧ Below w.heap.size w w' :=
  (procStepsC ss v w hsm ha hr).mono fun e w' ⟨⟨u, h1, h2, h3⟩, h4⟩ => ⟨⟨u, h1, h2, fun h => (h3 h).1⟩, h4⟩
set_option maxRecDepth 100000 in
set_option maxHeartbeats 1000000 in
theorem implProcFault (ss : List StepD) (v : Value) (w : World) (hsm : St.Small 1048576 ss) (ha : St.At w 0 v ss) (hr : Rul w) :
    Calls Tryz.prog 22 #[v] w fun e w' => e = .returned (.int .i64 (pFault ss)) ∧ Below w.heap.size w w' := by
  have HC := hid (procSteps ss v w hsm ha hr)
  obtain ⟨a, cap, rfl⟩ := ha.slice
  clear ha hsm hr
  go_enter Tryz.func22, Tryz.ntmps22
  go_wp2_with (go_at_call 46; refine HC.out.mono ?_; rintro e w' ⟨⟨u, rfl, _, _⟩, hb⟩)
  go_ret
  exact ⟨rfl, hb⟩
end Pf
end Go.Proofs.YtgghigfflpbjiaaGreatDoor
/- DeepOf, of the specification and of the program. Condition of the second: the table of rules lies as its initialiser lays it. -/
namespace Go.Proofs.YtgghigfflpbjiaaGreatDoor
open Go.RowKit
set_option linter.unusedVariables false
namespace Pf
open Ex (hid inR eFault)
open Nd (NodeD)
open St (StepD)
open Tr (Chain cutTo onPath top nf ElemD)
def deepN (ss : List StepD) : Nat → Nat
  | 0 => 0
  | n + 1 => max (deepN ss n) (path ss (n + 1)).length
def deepV (ss : List StepD) : Int := if pFault ss = 0 then (deepN ss ss.length : Int) else 0
theorem deepV_ok {ss : List StepD} (h : pFault ss = 0) : deepV ss = (deepN ss ss.length : Int) := by unfold deepV; rw [if_pos h]
theorem deepV_bad {ss : List StepD} (h : pFault ss ≠ 0) : deepV ss = 0 := by unfold deepV; rw [if_neg h]
theorem deep_le {ss : List StepD} (h : firstC (oneC ss) ss.length = 0) : ∀ {n : Nat}, n ≤ ss.length → deepN ss n ≤ 7
  | 0, _ => Nat.zero_le _
  | n + 1, hn => by
    have h1 := deep_le h (n := n) (by omega)
    have h2 := (walked hn (first_to h hn)).deep
    rw [deepN]
    omega
theorem kept_cell {B : Nat} {W w : World} (h : Below B W w) {b o : Nat} (hb : b < B) {v : Value} (hc : W.cell? ⟨b, o, none⟩ = some v) : w.cell? ⟨b, o, none⟩ = some v := (h.cell (p := ⟨b, o, none⟩) hb).trans hc
theorem kept_free {B : Nat} {W w : World} (h : Below B W w) {b o : Nat} (hb : b < B) (hc : W.frozen? ⟨b, o, none⟩ = false) : w.frozen? ⟨b, o, none⟩ = false := (h.frozen (p := ⟨b, o, none⟩) hb).trans hc
theorem ret2 {c d e f : Int} (h : c = d) (h2 : e = f) : Ending.returned (.agg #[.int .i64 c, .int .i64 e]) = .returned (.agg #[.int .i64 d, .int .i64 f]) := by rw [h, h2]
theorem specDeepAt (B : Nat) (ss : List StepD) (v : Value) (i : Nat) (w : World) (hl : ss.length ≤ 24) (hi : i < ss.length) (h1 : firstC (oneC ss) ss.length = 0) (ha : St.At w B v ss) :
    Calls Tryz.prog 62 #[v, .int .i64 (i : Int)] w fun e w' => e = .returned (.int .i64 ((path ss (i + 1)).length : Int)) ∧ w' = w := by
  have W := walked (ss := ss) (i := i + 1) (by omega) (first_to h1 (by omega))
  have h := specDeep B ss v (path ss (i + 1)) w hl W.chain (by have := W.deep; omega) ha
  rw [W.first] at h
  rw [show ((i + 1 : Nat) : Int) - 1 = (i : Int) by omega] at h
  exact h
end Pf
end Go.Proofs.YtgghigfflpbjiaaGreatDoor
