/- Laid together: JnA, JnB, JnC, ApA. -/
import Derived.Test.YtccklgopcjilcaaGreatDoorJWF17
import Derived.WalkKit
import Derived.WalkLawsBesides
import Derived.Below
import Derived.Laws.AppendOwn
import Derived.Laws.OwnMore
import Derived.Laws.FloatArith
import Derived.KernelRfl
import Derived.Deep.AppendLies
import Derived.Laws.IdiomStrings
import Derived.Test.YtccklgopcjilcaaGreatDoorProg
import Derived.Deep.Upon
/- Bytes in memory: read, sliced, made a string; the sums as complex numbers. No condition. -/
namespace Go.Proofs.YtccklgopcjilcaaGreatDoor
open Go.RowKit
set_option linter.unusedVariables false
namespace Jn
structure Hid (p : Prop) : Prop where
  out : p
theorem hid {p : Prop} (h : p) : Hid p := ⟨h⟩
theorem kept_cell {B : Nat} {W w : World} (h : Below B W w) {b o : Nat} (hb : b < B) {v : Value} (hc : W.cell? ⟨b, o, none⟩ = some v) : w.cell? ⟨b, o, none⟩ = some v := (h.cell (p := ⟨b, o, none⟩) hb).trans hc
theorem kept_free {B : Nat} {W w : World} (h : Below B W w) {b o : Nat} (hb : b < B) (hc : W.frozen? ⟨b, o, none⟩ = false) : w.frozen? ⟨b, o, none⟩ = false := (h.frozen (p := ⟨b, o, none⟩) hb).trans hc
theorem setB {B : Nat} {W w : World} (h : Below B W w) {b o : Nat} (hb : B ≤ b) (x : Value) : Below B W (w.setCell ⟨b, o, none⟩ x) := h.setCell hb x
theorem own_set {w : World} {B n b c sz : Nat} {e : TypeId} {v u : Value} {xs : List Value} (h : w.ownsRow B e sz v n xs) (hb : b < B) : (w.setCell ⟨b, c, none⟩ u).ownsRow B e sz v n xs := ownsRow_setCell_below h (a := ⟨b, c, none⟩) hb u
theorem own_mono {w : World} {B B' n : Nat} {e : TypeId} {sz : Nat} {v : Value} {xs : List Value} (h : w.ownsRow B e sz v n xs) (hb : B' ≤ B) : w.ownsRow B' e sz v n xs := by
  obtain ⟨h1, h2⟩ := h
  refine ⟨h1, ?_⟩
  rcases h2 with h2 | ⟨g, cap, cur, a1, a2, a3⟩
  · exact .inl h2
  · exact .inr ⟨g, cap, cur, a1, by omega, a3⟩
theorem addn (g o j : Nat) : (⟨g, o, none⟩ : Addr).add j = ⟨g, o + j, none⟩ := by unfold Addr.add; split <;> simp_all
def vb (b : UInt8) : Value := .int .u8 (b.toNat : Int)
def vbs (l : List UInt8) : List Value := l.map vb
theorem vbs_len (l : List UInt8) : (vbs l).length = l.length := by simp [vbs]
theorem vbs_app (a b : List UInt8) : vbs (a ++ b) = vbs a ++ vbs b := by simp [vbs]
theorem vbs_get {l : List UInt8} {i : Nat} (h : i < l.length) : (vbs l)[i]? = some (vb l[i]) := by simp [vbs, h]
theorem vbs_one (l : List UInt8) : ∀ u ∈ vbs l, u.oneCell' = true := by
  intro u hu
  obtain ⟨b, _, rfl⟩ := List.mem_map.1 hu
  rfl
/-- Bytes in a row, in a block below B. -/
def At (w : World) (B : Nat) (v : Value) (l : List UInt8) : Prop := ∃ a cap, v = .slice a l.length cap ∧ l.length ≤ cap ∧ ∀ i (h : i < l.length), ∃ g o, a = some ⟨g, o, none⟩ ∧ g < B ∧ w.cell? ⟨g, o + i, none⟩ = some (vb l[i])
theorem At.slice {w : World} {B : Nat} {v : Value} {l : List UInt8} (h : At w B v l) : ∃ a cap, v = .slice a l.length cap ∧ l.length ≤ cap := by obtain ⟨a, cap, rfl, h, _⟩ := h; exact ⟨a, cap, rfl, h⟩
theorem At.at {w : World} {B : Nat} {a : Option Addr} {n cap : Nat} {l : List UInt8} (h : At w B (.slice a n cap) l) {i : Nat} (hi : i < l.length) : ∃ g o, a = some ⟨g, o, none⟩ ∧ g < B ∧ w.cell? ⟨g, o + i, none⟩ = some (vb l[i]) := by
  obtain ⟨a', cap', e, _, h⟩ := h; cases e; exact h i hi
theorem At.len {w : World} {B : Nat} {a : Option Addr} {n cap : Nat} {l : List UInt8} (h : At w B (.slice a n cap) l) : n = l.length ∧ n ≤ cap := by
  obtain ⟨a', cap', e, h1, _⟩ := h; cases e; exact ⟨rfl, h1⟩
theorem At.keep {w w' : World} {B : Nat} {v : Value} {l : List UInt8} (h : At w B v l) (hb : ∀ g, g < B → w'.heap[g]? = w.heap[g]?) : At w' B v l := by
  obtain ⟨a, cap, rfl, hc, h⟩ := h
  refine ⟨a, cap, rfl, hc, fun i hi => ?_⟩
  obtain ⟨g, o, rfl, hB, hc⟩ := h i hi
  exact ⟨g, o, rfl, hB, by simp only [World.cell?, hb g hB] at hc ⊢; exact hc⟩
theorem At.below {w w' : World} {B C : Nat} {v : Value} {l : List UInt8} (h : At w B v l) (hb : Below C w w') (hBC : B ≤ C) : At w' B v l := h.keep fun g hg => hb.block g (by omega)
theorem At.mono {w : World} {B C : Nat} {v : Value} {l : List UInt8} (h : At w B v l) (hBC : B ≤ C) : At w C v l := by
  obtain ⟨a, cap, rfl, hc, h⟩ := h
  refine ⟨a, cap, rfl, hc, fun i hi => ?_⟩
  obtain ⟨g, o, rfl, hB, hc⟩ := h i hi
  exact ⟨g, o, rfl, by omega, hc⟩
theorem At.set {w : World} {B b c : Nat} {v u : Value} {l : List UInt8} (h : At w B v l) (hb : B ≤ b) : At (w.setCell ⟨b, c, none⟩ u) B v l := h.below ((Below.refl B w).setCell hb u) (Nat.le_refl _)
theorem at_own {w : World} {B n : Nat} {t : TypeId} {v : Value} {l : List UInt8} (h : w.ownsRow B t 1 v n (vbs l)) : At w w.heap.size v l := by
  have hlt := h.lt
  have hcs := fun (g : Nat) (hg : v.ownBlock = some g) => h.cells hg
  obtain ⟨h1, h2⟩ := h
  rw [vbs_len] at h1
  obtain rfl : n = l.length := by omega
  rcases h2 with ⟨rfl, hn⟩ | ⟨g, cap, cur, rfl, hB, hg, hc, _⟩
  · exact ⟨none, 0, by rw [hn], by omega, fun i hi => by omega⟩
  · exact ⟨some ⟨g, 0, none⟩, cap, rfl, hc, fun i hi => ⟨g, 0, rfl, (hlt g rfl).2, by
      have := hcs g rfl i (vb l[i]) (vbs_get hi)
      rw [addn] at this
      exact this⟩⟩
theorem at_nil (w : World) (B : Nat) (a : Option Addr) (c : Nat) : At w B (.slice a 0 c) [] := ⟨a, c, rfl, Nat.zero_le _, fun i hi => by simp at hi⟩
theorem sized (w : World) : Sem.run Tryz.prog (sizeOf (Tryz.prog.elem 31)) w = .ok 1 w := by kernel_rfl
/-- What is left from i on. -/
theorem At.from {w : World} {B : Nat} {a : Option Addr} {n c : Nat} {l : List UInt8} (h : At w B (.slice a n c) l) (i : Nat) (hi : i ≤ l.length) :
    ∃ a' c', (∀ w' : World, Sem.run Tryz.prog (Instr.slice 31 (.slice a n c) (some (.int .i64 (i : Int))) none none) w' = .ok (.slice a' (n - i) c') w') ∧ At w B (.slice a' (n - i) c') (l.drop i) := by
  obtain ⟨a', cap', e, hc, hcell⟩ := h
  cases e
  refine ⟨if c = i then a else a.map (·.add (i * 1)), c - i, fun w' => ?_, ?_⟩
  · rw [run_slice_l (P := Tryz.prog) w' 31 a l.length c (by kernel_rfl) .i64 (i : Int) (by omega) (by omega), sized]
    simp only [Result.andThen, sliced, Int.toNat_natCast]
  · refine ⟨_, _, by rw [List.length_drop], by rw [List.length_drop]; omega, fun j hj => ?_⟩
    rw [List.length_drop] at hj
    obtain ⟨g, o, rfl, hg, hcl⟩ := hcell (i + j) (by omega)
    refine ⟨g, o + i, ?_, hg, ?_⟩
    · rw [if_neg (by omega), Nat.mul_one, Option.map_some, addn]
    · rw [List.getElem_drop, Nat.add_assoc]
      exact hcl
/-- The first i. -/
theorem At.to {w : World} {B : Nat} {a : Option Addr} {n c : Nat} {l : List UInt8} (h : At w B (.slice a n c) l) (i : Nat) (hi : i ≤ l.length) :
    ∃ a', (∀ w' : World, Sem.run Tryz.prog (Instr.slice 31 (.slice a n c) none (some (.int .i64 (i : Int))) none) w' = .ok (.slice a' i c) w') ∧ At w B (.slice a' i c) (l.take i) ∧ a' = a := by
  obtain ⟨a', cap', e, hc, hcell⟩ := h
  cases e
  have ha : (if c = 0 then a else a.map (·.add (0 * 1))) = a := by
    split
    · rfl
    · cases a with
      | none => rfl
      | some ad => obtain ⟨g, o, p⟩ := ad; unfold Addr.add; cases p <;> rfl
  refine ⟨a, fun w' => ?_, ?_, rfl⟩
  · rw [run_slice_h (P := Tryz.prog) w' 31 a l.length c (by kernel_rfl) .i64 (i : Int) (by omega) (by omega), sized]
    simp only [Result.andThen, sliced, Int.toNat_natCast, Nat.sub_zero]
    rw [ha]
  · refine ⟨a, c, by rw [List.length_take]; rw [Nat.min_eq_left hi], by rw [List.length_take]; omega, fun j hj => ?_⟩
    rw [List.length_take] at hj
    obtain ⟨g, o, rfl, hg, hcl⟩ := hcell j (by omega)
    exact ⟨g, o, rfl, hg, by rw [List.getElem_take]; exact hcl⟩
/-- From i up to j. -/
theorem At.mid {w : World} {B : Nat} {a : Option Addr} {n c : Nat} {l : List UInt8} (h : At w B (.slice a n c) l) (i j : Nat) (hij : i ≤ j) (hj : j ≤ l.length) :
    ∃ a' c', (∀ w' : World, Sem.run Tryz.prog (Instr.slice 31 (.slice a n c) (some (.int .i64 (i : Int))) (some (.int .i64 (j : Int))) none) w' = .ok (.slice a' (j - i) c') w') ∧ At w B (.slice a' (j - i) c') ((l.drop i).take (j - i)) := by
  obtain ⟨a', cap', e, hc, hcell⟩ := h
  cases e
  refine ⟨if c = i then a else a.map (·.add (i * 1)), c - i, fun w' => ?_, ?_⟩
  · rw [run_slice_lh (P := Tryz.prog) w' 31 a l.length c (by kernel_rfl) .i64 .i64 (i : Int) (j : Int) (by omega) (by omega) (by omega), sized]
    simp only [Result.andThen, sliced, Int.toNat_natCast]
  · refine ⟨_, _, by rw [List.length_take, List.length_drop, Nat.min_eq_left (by omega)], by rw [List.length_take, List.length_drop]; omega, fun k hk => ?_⟩
    rw [List.length_take, List.length_drop] at hk
    obtain ⟨g, o, rfl, hg, hcl⟩ := hcell (i + k) (by omega)
    refine ⟨g, o + i, ?_, hg, ?_⟩
    · rw [if_neg (by omega), Nat.mul_one, Option.map_some, addn]
    · rw [List.getElem_take, List.getElem_drop, Nat.add_assoc]
      exact hcl
def str (l : List UInt8) : ByteArray := ⟨l.toArray⟩
theorem str_size (l : List UInt8) : (str l).size = l.length := by simp [str, ByteArray.size]
theorem str_inj {a b : List UInt8} (h : str a = str b) : a = b := by
  unfold str at h
  injection h with h
  exact List.toArray_inj h
theorem str_list (s : ByteArray) : str s.data.toList = s := rfl
/-- A string of a row's bytes. -/
theorem At.str {w : World} {B : Nat} {a : Option Addr} {n c : Nat} {l : List UInt8} (h : At w B (.slice a n c) l) :
    Sem.run Tryz.prog (convert 31 9 (.slice a n c)) w = .ok (.string (str l)) w := by
  obtain ⟨a', cap', e, hc, hcell⟩ := h
  cases e
  cases a with
  | none =>
    have h0 : l = [] := by
      cases l with
      | nil => rfl
      | cons x xs => obtain ⟨g, o, hg, _⟩ := hcell 0 (by simp); cases hg
    subst h0
    exact run_convert_bytes_nil (P := Tryz.prog) w 31 5 Tryz.underlying31 Tryz.underlying5 0 c 9 Tryz.underlying9
  | some ad =>
    refine run_convert_bytes_back (P := Tryz.prog) w 31 9 5 ad c l Tryz.underlying31 Tryz.underlying5 Tryz.underlying9 ?_
    intro j hj
    obtain ⟨g, o, hg, _, hcl⟩ := hcell j hj
    cases hg
    rw [addn]
    exact hcl
/-- A small number as a float. -/
def fl (n : Nat) : Nat := floatOfInt .f64 (n : Int)
/-- A sum as a complex number. -/
def cx (n : Nat) : Value := .complex .f64 (fl (n / 256)) (fl (n % 256))
theorem fl_back (n : Nat) (h : n < 256) : floatToIntVal .f64 (fl n) .i64 = some (n : Int) ∧ floatToIntVal .f64 (fl n) .u8 = some (n : Int) := by
  have H : (List.range 256).all (fun n => floatToIntVal .f64 (fl n) .i64 == some (n : Int) && floatToIntVal .f64 (fl n) .u8 == some (n : Int)) = true := by kernel_rfl
  have := List.all_eq_true.1 H n (List.mem_range.2 h)
  rw [Bool.and_eq_true, beq_iff_eq, beq_iff_eq] at this
  exact this
end Jn
end Go.Proofs.YtccklgopcjilcaaGreatDoor
/- The sum of bytes, as the program keeps it: a complex number; LineFault, of the program and of the specification. No condition. -/
namespace Go.Proofs.YtccklgopcjilcaaGreatDoor
open Go.RowKit
set_option linter.unusedVariables false
namespace Jn
theorem cv_f (n : Nat) (w : World) : Sem.run Tryz.prog (convert 2 337 (.int .i64 (n : Int))) w = .ok (.float .f64 (fl n)) w := run_convert_int_float (P := Tryz.prog) w 2 337 .i64 .f64 (n : Int) (by kernel_rfl) (by kernel_rfl)
theorem cv_i (n : Nat) (h : n < 256) (w : World) : Sem.run Tryz.prog (convert 337 2 (.float .f64 (fl n))) w = .ok (.int .i64 (n : Int)) w := run_convert_float_int (P := Tryz.prog) w 337 2 .f64 .i64 (fl n) (n : Int) (by kernel_rfl) (by kernel_rfl) (fl_back n h).1
theorem cv_b (n : Nat) (h : n < 256) (w : World) : Sem.run Tryz.prog (convert 337 5 (.float .f64 (fl n))) w = .ok (.int .u8 (n : Int)) w := run_convert_float_int (P := Tryz.prog) w 337 5 .f64 .u8 (fl n) (n : Int) (by kernel_rfl) (by kernel_rfl) (fl_back n h).2
theorem implOfV (n : Nat) (w : World) (h : n < 65536) : Calls Tryz.prog 260 #[.int .i64 (n : Int)] w fun e w' => e = .returned (cx n) ∧ w' = w := by
  have e1 : (n : Int).tdiv 256 = ((n / 256 : Nat) : Int) := by rw [Int.tdiv_eq_ediv_of_nonneg (by omega)]; omega
  have e2 : (n : Int).tmod 256 = ((n % 256 : Nat) : Int) := by rw [Int.tmod_eq_emod_of_nonneg (by omega)]; omega
  have c1 := cv_f (n / 256) w
  have c2 := cv_f (n % 256) w
  unfold cx
  have hq : n / 256 < 256 := by omega
  generalize n / 256 = q at *
  generalize n % 256 = r at *
  go_enter Tryz.func260, Tryz.ntmps260
  go_wp2
  go_ret
  exact ⟨rfl, rfl⟩
theorem implVal (n : Nat) (w : World) (h : n < 65536) : Calls Tryz.prog 265 #[cx n] w fun e w' => e = .returned (.int .i64 (n : Int)) ∧ w' = w := by
  have hq : n / 256 < 256 := by omega
  have hr : n % 256 < 256 := by omega
  have c1 := cv_i (n / 256) hq w
  have c2 := cv_i (n % 256) hr w
  have e1 : ((n / 256 : Nat) : Int) * 256 + ((n % 256 : Nat) : Int) = (n : Int) := by omega
  unfold cx
  generalize n / 256 = q at *
  generalize n % 256 = r at *
  have E1 := hid e1
  have e2 : (q : Int) ≤ 255 := by omega
  have e3 : (r : Int) ≤ 255 := by omega
  clear e1 h
  go_enter Tryz.func265, Tryz.ntmps265
  go_wp2
  go_ret
  exact ⟨by rw [← E1.out]; rfl, rfl⟩
theorem implHi (n : Nat) (w : World) (h : n < 65536) : Calls Tryz.prog 250 #[cx n] w fun e w' => e = .returned (.int .u8 ((n / 256 : Nat) : Int)) ∧ w' = w := by
  have c1 := cv_b (n / 256) (by omega) w
  unfold cx
  generalize n / 256 = q at *
  generalize n % 256 = r at *
  go_enter Tryz.func250, Tryz.ntmps250
  go_wp2
  go_ret
  exact ⟨rfl, rfl⟩
theorem implLo (n : Nat) (w : World) (h : n < 65536) : Calls Tryz.prog 251 #[cx n] w fun e w' => e = .returned (.int .u8 ((n % 256 : Nat) : Int)) ∧ w' = w := by
  have c1 := cv_b (n % 256) (by omega) w
  unfold cx
  generalize n / 256 = q at *
  generalize n % 256 = r at *
  go_enter Tryz.func251, Tryz.ntmps251
  go_wp2
  go_ret
  exact ⟨rfl, rfl⟩
theorem implWith (n : Nat) (b : UInt8) (w : World) (h : n < 65536) : Calls Tryz.prog 261 #[cx n, vb b] w fun e w' => e = .returned (cx (stepV n b)) ∧ w' = w := by
  have hb := b.toNat_lt
  have HV := hid (fun w' => implVal n w' h)
  have e1 : ((n : Int) * 251 + (b.toNat : Int)).tmod 65521 = ((stepV n b : Nat) : Int) := by
    unfold stepV
    rw [Int.tmod_eq_emod_of_nonneg (by omega)]
    omega
  have HS := hid (fun w' => implOfV (stepV n b) w' (by have := step_lt n b; omega))
  have hs := step_lt n b
  generalize stepV n b = s at *
  unfold vb
  generalize b.toNat = d at *
  generalize cx n = c1 at *
  generalize cx s = c2 at *
  go_enter Tryz.func261, Tryz.ntmps261
  go_wp2_with fail
  refine (HV.out _).mono ?_
  rintro e w1 ⟨rfl, hw⟩
  replace hw := hw.symm
  subst hw
  go_wp2_with fail
  refine (HS.out _).mono ?_
  rintro e w1 ⟨rfl, hw⟩
  replace hw := hw.symm
  subst hw
  go_wp2
  go_ret
  exact ⟨rfl, rfl⟩
set_option maxRecDepth 100000 in
set_option maxHeartbeats 1000000 in
theorem implSum (B : Nat) (l : List UInt8) (v : Value) (w : World) (hl : l.length ≤ 100) (ha : At w B v l) : Calls Tryz.prog 249 #[v] w fun e w' => e = .returned (cx (sumV l)) ∧ w' = w := by
  obtain ⟨a, cap, rfl, hcap⟩ := ha.slice
  have HA := hid ha
  clear ha
  have HS := hid (fun w' => implOfV 1 w' (by omega))
  have H0 : Hid (cx 1 = cx (sumV (l.take 0))) := hid rfl
  have HT : Hid (sumV (l.take l.length) = sumV l) := hid (by rw [List.take_length])
  change Hid (∀ w', Calls Tryz.prog 260 #[.int .i64 1] w' fun e w'' => e = .returned (cx 1) ∧ w'' = w') at HS
  generalize cx 1 = c1 at *
  obtain ⟨cl, hcl⟩ : ∃ cl, Hid (cl = cx (sumV l)) := ⟨_, hid rfl⟩
  rw [← hcl.out]
  go_enter Tryz.func249, Tryz.ntmps249
  go_wp2_with fail
  refine (HS.out _).mono ?_
  rintro e w1 ⟨rfl, hw⟩
  replace hw := hw.symm
  subst hw
  go_wp2
  go_loopw [3, 9] (fun s x wr => ∃ j : Nat, x = .int .i64 (j : Int) ∧ j ≤ l.length ∧ Hid (s = cx (sumV (l.take j))) ∧ Hid (wr = w)) (fun _ x _ => l.length - (intOf x).toNat)
  case atStart => exact ⟨0, rfl, Nat.zero_le _, H0, hid rfl⟩
  case round =>
    obtain ⟨j, rfl, hj, hs, HW⟩ := hrel
    have hw := HW.out.symm
    subst hw
    by_cases hlt : j < l.length
    · obtain ⟨g, o, rfl, hg, hc⟩ := HA.out.at hlt
      have q1 : (j : Int) < (l.length : Int) := by omega
      have HWI := hid (fun w' => implWith (sumV (l.take j)) l[j] w' (by have := sum_lt (l.take j); omega))
      have HST := hid (sum_take hlt)
      rw [← hs.out] at HWI
      rw [← HST.out] at HWI
      generalize vb l[j] = bj at *
      clear HST
      go_wp2_with fail
      refine (HWI.out _).mono ?_
      rintro e w1 ⟨rfl, hw⟩
      replace hw := hw.symm
      subst hw
      go_wp2
      exact ⟨⟨j + 1, by simp, by omega, hid rfl, hid trivial⟩, by simp [intOf]; omega⟩
    · obtain rfl : j = l.length := by omega
      have q1 : ¬ (l.length : Int) < (l.length : Int) := by omega
      go_wp2
      go_ret
      exact ⟨by rw [hcl.out, hs.out, HT.out]; rfl, rfl⟩
end Jn
end Go.Proofs.YtccklgopcjilcaaGreatDoor
/- LineFault, of the program and of the specification. No condition. -/
namespace Go.Proofs.YtccklgopcjilcaaGreatDoor
open Go.RowKit
set_option linter.unusedVariables false
namespace Jn
/-- The bytes of a string, as a new row. -/
theorem conv_to (l : List UInt8) (w : World) : ∃ w' c, Sem.run Tryz.prog (convert 9 31 (.string (str l))) w = .ok (.slice (some ⟨w.heap.size, 0, none⟩) l.length c) w' ∧ At w' w'.heap.size (.slice (some ⟨w.heap.size, 0, none⟩) l.length c) l ∧ Below w.heap.size w w' ∧ w.heap.size < w'.heap.size := by
  refine ⟨_, _, (run_bytes_of_string (P := Tryz.prog) w 9 31 5 (str l) Tryz.underlying9 Tryz.underlying31 Tryz.underlying5).trans (by rw [str_size]), ?_, ?_, ?_⟩
  · refine ⟨_, _, rfl, grownCap_ge w l.length 0 5, fun i hi => ⟨w.heap.size, 0, rfl, by simp, ?_⟩⟩
    rw [Nat.zero_add]
    show (w.drew.alloc _).cell? ⟨w.drew.heap.size, i, none⟩ = _
    rw [World.cell?_alloc_mark, bytesRow_at _ _ _ (by simpa [str] using hi)]
    simp [str, vb]
  · exact ((Below.refl w.heap.size w).drew).alloc (Nat.le_refl _) _
  · simp
def allOk (l : List UInt8) (j : Nat) : Prop := ∀ i (hi : i < l.length), i < j → bad l[i] = false
theorem bad_split (b : UInt8) : (b.toNat < 32 ∧ bad b = true) ∨ (¬ b.toNat < 32 ∧ 126 < b.toNat ∧ bad b = true) ∨ (¬ b.toNat < 32 ∧ ¬ 126 < b.toNat ∧ bad b = false) := by
  unfold bad
  by_cases h1 : b.toNat < 32 <;> by_cases h2 : 126 < b.toNat <;> simp [h1, h2]
set_option maxRecDepth 100000 in
set_option maxHeartbeats 2000000 in
theorem implLine (l : List UInt8) (w : World) (hl : l.length ≤ 1048576) : Calls Tryz.prog 248 #[.string (str l)] w fun e w' => e = .returned (.int .i64 (faultC l)) ∧ Below w.heap.size w w' := by
  obtain ⟨w1, c, hcv, hat, hb, hlt⟩ := conv_to l w
  have HA := hid hat
  have HB := hid hb
  have HM := hid (fun h => fault_many (s := l) h)
  have HT := hid (fun h0 h1 i hi hb => fault_text (s := l) h0 h1 (i := i) hi hb)
  have HO := hid (fun h0 h1 h => fault_ok (s := l) h0 h1 h)
  obtain ⟨f, hf⟩ : ∃ f, Hid (f = faultC l) := ⟨_, hid rfl⟩
  rw [← hf.out]
  obtain ⟨s, hs⟩ : ∃ s, s = str l := ⟨_, rfl⟩
  have hz : s.size = l.length := by rw [hs, str_size]
  rw [← hs] at hcv ⊢
  clear hat hb hlt hs
  by_cases h1 : l.length < 1
  · have q1 : ((s.size : Nat) : Int) < 1 := by omega
    clear hcv hz
    go_enter Tryz.func248, Tryz.ntmps248
    go_wp2
    go_ret
    exact ⟨by rw [hf.out, HM.out (.inl h1)]; rfl, Below.refl _ _⟩
  by_cases h2 : 40 < l.length
  · have q1 : ¬ ((s.size : Nat) : Int) < 1 := by omega
    have q2 : (40 : Int) < ((s.size : Nat) : Int) := by omega
    clear hcv hz
    go_enter Tryz.func248, Tryz.ntmps248
    go_wp2
    go_ret
    exact ⟨by rw [hf.out, HM.out (.inr h2)]; rfl, Below.refl _ _⟩
  · have q1 : ¬ ((s.size : Nat) : Int) < 1 := by omega
    have q2 : ¬ (40 : Int) < ((s.size : Nat) : Int) := by omega
    clear hz
    go_enter Tryz.func248, Tryz.ntmps248
    go_wp2
    go_loopw [16] (fun x wr => ∃ j : Nat, x = .int .i64 (j : Int) ∧ j ≤ l.length ∧ Hid (allOk l j) ∧ Hid (wr = w1)) (fun x _ => l.length - (intOf x).toNat)
    case atStart => exact ⟨0, rfl, Nat.zero_le _, hid (fun i _ hi => absurd hi (Nat.not_lt_zero i)), hid rfl⟩
    case round =>
      obtain ⟨j, rfl, hj, hok, HW⟩ := hrel
      have hw := HW.out
      subst hw
      by_cases hlt : j < l.length
      · obtain ⟨g, o, ha, hg, hc⟩ := HA.out.at hlt
        cases ha
        have p1 : (j : Int) < (l.length : Int) := by omega
        have HBS := hid (bad_split l[j])
        simp only [vb, Nat.zero_add] at hc
        generalize hd : (l[j].toNat : Int) = d at *
        rcases HBS.out with ⟨b1, bb⟩ | ⟨b1, b2, bb⟩ | ⟨b1, b2, bb⟩
        · have p2 : d < 32 := by omega
          clear hd
          go_wp2
          go_ret
          exact ⟨by rw [hf.out, HT.out (by omega) (by omega) j hlt bb]; rfl, HB.out⟩
        · have p2 : ¬ d < 32 := by omega
          have p3 : 126 < d := by omega
          clear hd
          go_wp2
          go_ret
          exact ⟨by rw [hf.out, HT.out (by omega) (by omega) j hlt bb]; rfl, HB.out⟩
        · have p2 : ¬ d < 32 := by omega
          have p3 : ¬ 126 < d := by omega
          clear hd
          go_wp2
          exact ⟨⟨j + 1, by simp, by omega, hid (fun i hi hij => by
            rcases Nat.lt_or_ge i j with h | h
            · exact hok.out i hi h
            · obtain rfl : i = j := by omega
              exact bb), hid trivial⟩, by simp [intOf]; omega⟩
      · obtain rfl : j = l.length := by omega
        have p1 : ¬ (l.length : Int) < (l.length : Int) := by omega
        go_wp2
        go_ret
        exact ⟨by rw [hf.out, HO.out (by omega) (by omega) (fun i hi => hok.out i hi hi)]; rfl, HB.out⟩
set_option maxRecDepth 100000 in
set_option maxHeartbeats 400000 in
theorem specPlain (c : UInt8) (w : World) : Calls Tryz.prog 247 #[.int .u8 c.toNat] w fun e w' => e = .returned (.bool (!bad c)) ∧ w' = w := by
  by_cases h1 : (32 : Int) ≤ (c.toNat : Int)
  · by_cases h2 : (c.toNat : Int) ≤ 126
    · have HB : Hid ((!bad c) = true) := hid (by simp [bad]; omega)
      go_enter Tryz.func247, Tryz.ntmps247
      go_wp2
      go_ret
      exact ⟨by rw [HB.out]; rfl, rfl⟩
    · have HB : Hid ((!bad c) = false) := hid (by simp [bad]; omega)
      go_enter Tryz.func247, Tryz.ntmps247
      go_wp2
      go_ret
      exact ⟨by rw [HB.out]; rfl, rfl⟩
  · have HB : Hid ((!bad c) = false) := hid (by simp [bad]; omega)
    go_enter Tryz.func247, Tryz.ntmps247
    go_wp2
    go_ret
    exact ⟨by rw [HB.out]; rfl, rfl⟩
theorem str_get (l : List UInt8) (k : Nat) (h : k < (str l).size) (h2 : k < l.length) : (str l)[k] = l[k] := by
  show (ByteArray.mk l.toArray).data[k] = l[k]
  simp
set_option maxRecDepth 100000 in
set_option maxHeartbeats 2000000 in
theorem specLine (l : List UInt8) (w : World) (hl : l.length ≤ 1048576) : Calls Tryz.prog 227 #[.string (str l)] w fun e w' => e = .returned (.int .i64 (faultC l)) ∧ w' = w := by
  have HM := hid (fun h => fault_many (s := l) h)
  have HT := hid (fun h0 h1 i hi hb => fault_text (s := l) h0 h1 (i := i) hi hb)
  have HO := hid (fun h0 h1 h => fault_ok (s := l) h0 h1 h)
  obtain ⟨f, hf⟩ : ∃ f, Hid (f = faultC l) := ⟨_, hid rfl⟩
  rw [← hf.out]
  obtain ⟨s, hs⟩ : ∃ s, s = str l := ⟨_, rfl⟩
  have hz : s.size = l.length := by rw [hs, str_size]
  have HG : Hid (∀ (k : Nat) (h : k < s.size) (h2 : k < l.length), s[k] = l[k]) := hid (by subst hs; exact str_get l)
  rw [← hs]
  clear hs
  by_cases h1 : l.length < 1
  · have q1 : ((s.size : Nat) : Int) < 1 := by omega
    clear hz
    go_enter Tryz.func227, Tryz.ntmps227
    go_wp2
    go_ret
    exact ⟨by rw [hf.out, HM.out (.inl h1)]; rfl, rfl⟩
  by_cases h2 : 40 < l.length
  · have q1 : ¬ ((s.size : Nat) : Int) < 1 := by omega
    have q2 : (40 : Int) < ((s.size : Nat) : Int) := by omega
    clear hz
    go_enter Tryz.func227, Tryz.ntmps227
    go_wp2
    go_ret
    exact ⟨by rw [hf.out, HM.out (.inr h2)]; rfl, rfl⟩
  · have q1 : ¬ ((s.size : Nat) : Int) < 1 := by omega
    have q2 : ¬ (40 : Int) < ((s.size : Nat) : Int) := by omega
    have HZ := hid hz
    clear hz
    go_enter Tryz.func227, Tryz.ntmps227
    go_wp2
    go_loop [3] (fun x => ∃ j : Nat, x = .int .i64 (j : Int) ∧ j ≤ s.size ∧ Hid (allOk l j)) (fun x => s.size - (intOf x).toNat)
    case atStart => exact ⟨0, rfl, Nat.zero_le _, hid (fun i _ hi => absurd hi (Nat.not_lt_zero i))⟩
    case round =>
      obtain ⟨j, rfl, hj, hok⟩ := hrel
      by_cases hlt : j < s.size
      · have hjl : j < l.length := by rw [← HZ.out]; exact hlt
        have HGJ := hid (HG.out j hlt hjl)
        rcases Bool.eq_false_or_eq_true (bad s[j]) with hbd | hbd
        · have HBD := hid hbd
          clear hbd
          have HX := hid (HT.out (by omega) (by omega) j hjl (by rw [← HGJ.out]; exact HBD.out))
          go_wp2_with (go_at_call 247; refine (specPlain s[j] _).mono ?_; rintro e w' ⟨rfl, rfl⟩; rw [HBD.out])
          go_ret
          exact ⟨by rw [hf.out, HX.out]; rfl, rfl⟩
        · have HBD := hid hbd
          clear hbd
          go_wp2_with (go_at_call 247; refine (specPlain s[j] _).mono ?_; rintro e w' ⟨rfl, rfl⟩; rw [HBD.out])
          exact ⟨⟨j + 1, by go_num, by omega, hid (fun i hi hij => by
            rcases Nat.lt_or_ge i j with h | h
            · exact hok.out i hi h
            · obtain rfl : i = j := by omega
              rw [← HGJ.out]; exact HBD.out)⟩, by simp [intOf]; omega⟩
      · have HX := hid (HO.out (by omega) (by omega) (fun i hi => hok.out i hi (by have := HZ.out; omega)))
        go_wp2
        go_ret
        exact ⟨by rw [hf.out, HX.out]; rfl, rfl⟩
end Jn
end Go.Proofs.YtccklgopcjilcaaGreatDoor
/- A row is appended to a row that is owned, be it empty or nil: one law, at an operation, at a plain region's list, at a step of a region that draws its order. -/
namespace Go.Proofs.YtccklgopcjilcaaGreatDoor
open Go.RowKit
set_option linter.unusedVariables false
namespace Ap
section
variable {P : Program}
/-- A row of m elements, as an argument: empty, nil, or its cells are there. -/
def Row (w : World) (size : Nat) (x : Value) (m : Nat) (news : List Value) : Prop :=
  ∃ a c, x = .slice a m c ∧ news.length = m * size ∧ (∀ u ∈ news, u.oneCell' = true) ∧ (m = 0 ∨ ∃ ad, a = some ad ∧ ∀ (j : Nat) u, news[j]? = some u → w.cell? (ad.add j) = some u)
theorem Row.kept {w w' : World} {size m : Nat} {x : Value} {news : List Value} (h : Row w size x m news) (hk : ∀ a u, w.cell? a = some u → w'.cell? a = some u) : Row w' size x m news := by
  obtain ⟨a, c, hx, hl, h1, h2⟩ := h
  refine ⟨a, c, hx, hl, h1, ?_⟩
  rcases h2 with h2 | ⟨ad, ha, hc⟩
  · exact .inl h2
  · exact .inr ⟨ad, ha, fun j u hu => hk _ _ (hc j u hu)⟩
theorem run_any (w : World) (t ty : TypeId) (base : Nat) (e : TypeId) (i : TypeInfo) (z : Value) (size bytes : Nat) (ht : P.underlying t = some (.slice e)) (hi : P.info? e = some i) (hz : i.zero = some z)
    (hsize : i.size = size) (hby : i.bytes = bytes) (hzs : z.cells.size = size) (hsz : 0 < size)
    (v : Value) (n : Nat) (xs : List Value) (hown : w.ownsRow base e size v n xs) (x : Value) (m : Nat) (news : List Value) (hr : Row w size x m news)
    (h63 : n + m ≤ maxLen) (hbytes : (n + m) * bytes ≤ 140737488355328) (hbase : base ≤ w.heap.size) (H : Nat) (hH : w.heap.size = H) :
    ∃ a' c' w', (Builtin.append_ #[t, t] ty #[v, x]).run P w = .ok (.slice a' (n + m) c') w' ∧ w'.ownsRow base e size (.slice a' (n + m) c') (n + m) (xs ++ news) ∧ w.grownBy w' v.ownBlock ∧ ((Value.slice a' (n + m) c').ownBlock = v.ownBlock ∨ (Value.slice a' (n + m) c').ownBlock = some H) := by
  obtain ⟨a, c, rfl, hl, h1, h2⟩ := hr
  by_cases hm : m = 0
  · subst hm
    obtain rfl : news = [] := List.eq_nil_of_length_eq_zero (by simpa using hl)
    have hs : Src P i.size t (.slice a 0 c) 0 [] w := by
      cases a with
      | none => exact Src.ofNil w ht c
      | some ad => exact Src.ofSlice w ht ad 0 c [] (by simp) (fun j u h => by simp at h) (fun u h => by simp at h)
    obtain ⟨bs, cp, rfl, hle⟩ : ∃ bs cp, v = .slice bs n cp ∧ n ≤ cp := by
      rcases hown.2 with ⟨rfl, rfl⟩ | ⟨g, cap, cur, rfl, _, _, hle, _⟩
      · exact ⟨none, 0, rfl, Nat.le_refl _⟩
      · exact ⟨_, _, rfl, hle⟩
    refine ⟨bs, cp, w, run_append_nothing (P := P) w t t ty e i ht hi bs n cp hle _ hs, ?_, ⟨rfl, rfl, rfl, Nat.le_refl _, fun _ _ _ => rfl⟩, .inl rfl⟩
    rw [List.append_nil]
    exact hown
  · rcases h2 with h2 | ⟨ad, rfl, hc⟩
    · exact absurd h2 hm
    · obtain ⟨g, cap, w', h3, h4, h5, h6, h7⟩ := run_append_lies (P := P) w t ty base e i z size bytes ht hi hz hsize hby hzs hsz v n xs hown ad m c news hl hc h1 (by omega) h63 hbytes hbase H hH
      refine ⟨some ⟨g, 0, none⟩, cap, w', h3, h4, h5, ?_⟩
      rcases h6 with h6 | h6
      · exact .inl h6.symm
      · right; show some g = _; rw [h6]
theorem wp_any (w : World) {o : Oper} {a : Act} {K : Act → World → Prop} {Q : Exit → Act → World → Prop} (s x : Operand) (t : TypeId)
    (ho : o.op = .call { callee := .builtin .append, args := #[s, x], argTypes := #[t, t] })
    (base : Nat) (e : TypeId) (i : TypeInfo) (z : Value) (size bytes : Nat) (ht : P.underlying t = some (.slice e)) (hi : P.info? e = some i) (hz : i.zero = some z)
    (hsize : i.size = size) (hby : i.bytes = bytes) (hzs : z.cells.size = size) (hsz : 0 < size)
    (v : Value) (n : Nat) (xs : List Value) (hs : a.eval s = v) (hown : w.ownsRow base e size v n xs) (xv : Value) (m : Nat) (news : List Value) (hx : a.eval x = xv) (hr : Row w size xv m news)
    (h63 : n + m ≤ maxLen) (hbytes : (n + m) * bytes ≤ 140737488355328) (hbase : base ≤ w.heap.size) (H : Nat) (hH : w.heap.size = H)
    (h : ∀ a' c' w', w'.ownsRow base e size (.slice a' (n + m) c') (n + m) (xs ++ news) → w.grownBy w' v.ownBlock → ((Value.slice a' (n + m) c').ownBlock = v.ownBlock ∨ (Value.slice a' (n + m) c').ownBlock = some H) → K (a.put o.dst (.slice a' (n + m) c')) w') : o.wp P a w K Q := by
  obtain ⟨a', c', w', hrn, h2, h3, h4⟩ := run_any (P := P) w t o.type base e i z size bytes ht hi hz hsize hby hzs hsz v n xs hown xv m news hr h63 hbytes hbase H hH
  unfold Oper.wp execOp
  simp only [ho, resolve, invoke, builtin, Sem.run_bind, Sem.run_pure, Result.andThen_ok, List.map_toArray, List.map_cons, List.map_nil, hs, hx, hrn]
  exact h a' c' w' h2 h3 h4
theorem wpList_any (w : World) {ops : Array Oper} {rest : List Oper} {o : Oper} {a : Act} {Q : Exit → Act → World → Prop} (hgd : o.guard = none) (s x : Operand) (t : TypeId)
    (ho : o.op = .call { callee := .builtin .append, args := #[s, x], argTypes := #[t, t] })
    (base : Nat) (e : TypeId) (i : TypeInfo) (z : Value) (size bytes : Nat) (ht : P.underlying t = some (.slice e)) (hi : P.info? e = some i) (hz : i.zero = some z)
    (hsize : i.size = size) (hby : i.bytes = bytes) (hzs : z.cells.size = size) (hsz : 0 < size)
    (v : Value) (n : Nat) (xs : List Value) (hs : a.eval s = v) (hown : w.ownsRow base e size v n xs) (xv : Value) (m : Nat) (news : List Value) (hx : a.eval x = xv) (hr : Row w size xv m news)
    (h63 : n + m ≤ maxLen) (hbytes : (n + m) * bytes ≤ 140737488355328) (hbase : base ≤ w.heap.size) (H : Nat) (hH : w.heap.size = H)
    (h : ∀ a' c' w', w'.ownsRow base e size (.slice a' (n + m) c') (n + m) (xs ++ news) → w.grownBy w' v.ownBlock → ((Value.slice a' (n + m) c').ownBlock = v.ownBlock ∨ (Value.slice a' (n + m) c').ownBlock = some H) → wpList P ops Q rest (a.put o.dst (.slice a' (n + m) c')) w') : wpList P ops Q (o :: rest) a w :=
  wpList_plain hgd fun _ hK => wp_any w s x t ho base e i z size bytes ht hi hz hsize hby hzs hsz v n xs hs hown xv m news hx hr h63 hbytes hbase H hH fun a' c' w' h2 h3 h4 => hK _ _ (h a' c' w' h2 h3 h4)
theorem step_any (w : World) {ops : Array Oper} {o : Oper} {a : Act} {K : Act → World → Prop} {Q : Exit → Act → World → Prop} {E : Prop} (hgd : o.guard = none) (s x : Operand) (t : TypeId)
    (ho : o.op = .call { callee := .builtin .append, args := #[s, x], argTypes := #[t, t] })
    (base : Nat) (e : TypeId) (i : TypeInfo) (z : Value) (size bytes : Nat) (ht : P.underlying t = some (.slice e)) (hi : P.info? e = some i) (hz : i.zero = some z)
    (hsize : i.size = size) (hby : i.bytes = bytes) (hzs : z.cells.size = size) (hsz : 0 < size)
    (v : Value) (n : Nat) (xs : List Value) (hs : a.eval s = v) (hown : w.ownsRow base e size v n xs) (xv : Value) (m : Nat) (news : List Value) (hx : a.eval x = xv) (hr : Row w size xv m news)
    (h63 : n + m ≤ maxLen) (hbytes : (n + m) * bytes ≤ 140737488355328) (hbase : base ≤ w.heap.size) (H : Nat) (hH : w.heap.size = H)
    (h : ∀ a' c' w', w'.ownsRow base e size (.slice a' (n + m) c') (n + m) (xs ++ news) → w.grownBy w' v.ownBlock → ((Value.slice a' (n + m) c').ownBlock = v.ownBlock ∨ (Value.slice a' (n + m) c').ownBlock = some H) → K (a.put o.dst (.slice a' (n + m) c')) w') :
    if Region.wanted o (yielded ops a.tmps) = true then Oper.wp P o a w K Q else E := by
  have hw : Region.wanted o (yielded ops a.tmps) = true := by simp [Region.wanted, hgd]
  rw [if_pos hw]
  exact wp_any w s x t ho base e i z size bytes ht hi hz hsize hby hzs hsz v n xs hs hown xv m news hx hr h63 hbytes hbase H hH h
end
end Ap
end Go.Proofs.YtccklgopcjilcaaGreatDoor
