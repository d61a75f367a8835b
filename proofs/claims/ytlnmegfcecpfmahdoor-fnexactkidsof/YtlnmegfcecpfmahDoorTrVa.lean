/- ValueOf, of the specification and of the program. Condition of the second: the table of entities lies as its initialiser lays it. -/
import Derived.Test.YtlnmegfcecpfmahDoorTrT
import Derived.Test.YtlnmegfcecpfmahDoorTrY
import Derived.Test.YtlnmegfcecpfmahDoorShelf
namespace Go.Proofs.YtlnmegfcecpfmahDoor
open Go.RowKit
set_option linter.unusedVariables false
namespace Tr
/-- A cell, and its mark, of a block that stood. -/
theorem kept_cell {B : Nat} {W w : World} (h : Below B W w) {b o : Nat} (hb : b < B) {v : Value} (hc : W.cell? ⟨b, o, none⟩ = some v) : w.cell? ⟨b, o, none⟩ = some v := (h.cell (p := ⟨b, o, none⟩) hb).trans hc
theorem kept_free {B : Nat} {W w : World} (h : Below B W w) {b o : Nat} (hb : b < B) (hc : W.frozen? ⟨b, o, none⟩ = false) : w.frozen? ⟨b, o, none⟩ = false := (h.frozen (p := ⟨b, o, none⟩) hb).trans hc
def valAt (es : List ElemD) (at' : Int) (nm : ByteArray) : Int := match es[at'.toNat]? with
  | some e => attrIdx e.attrs nm
  | none => -1
def valCode (es : List ElemD) (at' : Int) (nm : ByteArray) : Int := if fault es ≠ 0 then fault es else if 0 ≤ at' ∧ at' < es.length then (if valAt es at' nm < 0 then 4 else 0) else 3
def valText (es : List ElemD) (at' : Int) (nm : ByteArray) : ByteArray := if valCode es at' nm = 0 then (match es[at'.toNat]? with
  | some e => (match e.attrs[(attrIdx e.attrs nm).toNat]? with
    | some a => a.value
    | none => { data := #[] })
  | none => { data := #[] }) else { data := #[] }
theorem val_fault {es : List ElemD} {at' : Int} {nm : ByteArray} (h : fault es ≠ 0) : valCode es at' nm = fault es ∧ valText es at' nm = { data := #[] } := by
  have e : valCode es at' nm = fault es := by unfold valCode; rw [if_pos h]
  exact ⟨e, by unfold valText; rw [if_neg (by rw [e]; exact h)]⟩
theorem val_range {es : List ElemD} {at' : Int} {nm : ByteArray} (h : fault es = 0) (h2 : ¬ (0 ≤ at' ∧ at' < es.length)) : valCode es at' nm = 3 ∧ valText es at' nm = { data := #[] } := by
  have e : valCode es at' nm = 3 := by unfold valCode; rw [if_neg (by simp [h]), if_neg h2]
  exact ⟨e, by unfold valText; rw [if_neg (by rw [e]; decide)]⟩
theorem val_none {es : List ElemD} {k : Nat} {nm : ByteArray} (h : fault es = 0) (hk : k < es.length) (h3 : attrIdx es[k].attrs nm < 0) : valCode es k nm = 4 ∧ valText es k nm = { data := #[] } := by
  have e1 : valAt es k nm = attrIdx es[k].attrs nm := by unfold valAt; rw [Int.toNat_natCast, List.getElem?_eq_getElem hk]
  have e : valCode es k nm = 4 := by unfold valCode; rw [if_neg (by simp [h]), if_pos (by omega), if_pos (by rw [e1]; exact h3)]
  exact ⟨e, by unfold valText; rw [if_neg (by rw [e]; decide)]⟩
theorem val_ok {es : List ElemD} {k j : Nat} {nm : ByteArray} (h : fault es = 0) (hk : k < es.length) (h3 : attrIdx es[k].attrs nm = j) (hj : j < es[k].attrs.length) : valCode es k nm = 0 ∧ valText es k nm = es[k].attrs[j].value := by
  have e1 : valAt es k nm = attrIdx es[k].attrs nm := by unfold valAt; rw [Int.toNat_natCast, List.getElem?_eq_getElem hk]
  have e : valCode es k nm = 0 := by unfold valCode; rw [if_neg (by simp [h]), if_pos (by omega), if_neg (by rw [e1, h3]; omega)]
  refine ⟨e, ?_⟩
  unfold valText
  rw [if_pos e, Int.toNat_natCast, List.getElem?_eq_getElem hk]
  simp only [h3, Int.toNat_natCast, List.getElem?_eq_getElem hj]
theorem idx_lt {l : List AttrD} {nm : ByteArray} {j : Nat} (h : attrIdx l nm = j) : j < l.length := by
  unfold attrIdx at h
  cases hf : l.findIdx? (fun a => a.name.toList == nm.toList) with
  | none => rw [hf] at h; simp only at h; omega
  | some i =>
    rw [hf] at h
    obtain ⟨hi, _⟩ := List.findIdx?_eq_some_iff_getElem.1 hf
    simp only at h
    omega
theorem ret_agg {c d : Int} {s t : ByteArray} (h : c = d) (h2 : s = t) : Ending.returned (.agg #[.int .i64 c, .string s]) = .returned (.agg #[.int .i64 d, .string t]) := by rw [h, h2]
set_option maxRecDepth 100000 in
set_option maxHeartbeats 1000000 in
theorem specValue1 (B : Nat) (l : List AttrD) (a3 : Option Addr) (c3 g o : Nat) (nm : ByteArray) (w : World) (hl : l.length ≤ 1048576) (hc : w.cell? ⟨g, o + 2, none⟩ = some (.slice a3 l.length c3)) (ha : AttrsAt w B (.slice a3 l.length c3) l) :
    Calls Tryd.prog 50 #[.pointer (some ⟨g, o, none⟩), .string nm] w fun e w' => ((attrIdx l nm < 0 ∧ e = .returned (.tuple #[.string { data := #[] }, .bool false])) ∨ (∃ j, ∃ h : j < l.length, attrIdx l nm = (j : Int) ∧ e = .returned (.tuple #[.string l[j].value, .bool true]))) ∧ w' = w := by
  have HI := hid (specAttr B l _ nm w hl ha)
  have hlo := idx_lo l nm
  by_cases hx : attrIdx l nm < 0
  · have HX := hid hx
    generalize attrIdx l nm = ix at *
    go_enter Tryd.func50, Tryd.ntmps50
    go_wp2_with (go_at_call 77; refine HI.out.mono ?_; rintro e w' ⟨rfl, rfl⟩)
    go_ret2
    exact ⟨.inl ⟨HX.out, rfl⟩, rfl⟩
  · obtain ⟨j, hj⟩ : ∃ j : Nat, attrIdx l nm = (j : Int) := ⟨(attrIdx l nm).toNat, by omega⟩
    have hjl := idx_lt hj
    have HJ := hid hj
    rw [hj] at HI
    obtain ⟨g3, o3, rfl, hg3, c0, c1⟩ := ha.at hjl
    clear hx hj hlo ha
    have q1 : ¬ ((j : Int) < 0) := by omega
    have q2 : (j : Int) < (l.length : Int) := by omega
    go_enter Tryd.func50, Tryd.ntmps50
    go_wp2_with (go_at_call 77; refine HI.out.mono ?_; rintro e w' ⟨rfl, rfl⟩)
    go_ret2
    exact ⟨.inr ⟨j, hjl, HJ.out, rfl⟩, rfl⟩
set_option maxRecDepth 100000 in
set_option maxHeartbeats 2000000 in
theorem specValueOf (B : Nat) (es : List ElemD) (v : Value) (at' : Int) (nm : ByteArray) (w : World) (hl : SmallE 1048576 es) (hk : OkE es) (ha : ElemsAt w B v es) :
    Calls Tryd.prog 24 #[v, .int .i64 at', .string nm] w fun e w' => e = .returned (.agg #[.int .i64 (valCode es at' nm), .string (valText es at' nm)]) ∧ Below w.heap.size w w' := by
  obtain ⟨a, cap, rfl⟩ := ha.slice
  have hlen := hl.1
  have hb0 : Below w.heap.size w (w.alloc (.cells #[.int .i64 0, .string { data := #[] }] 25)) := (Below.refl _ w).alloc (Nat.le_refl _) _
  have HF := hid (specFault1 B es _ (w.alloc (.cells #[.int .i64 0, .string { data := #[] }] 25)) (by omega) hk (ha.below hb0))
  have HI := hid (fun w' => specIn at' 0 ((es.length : Int) - 1) w')
  have HA := hid ha
  have HL := hid hl
  clear ha hl hk
  by_cases hf : fault es = 0
  · have b1 : (fault es != 0) = false := by simp [hf]
    by_cases hr : 0 ≤ at' ∧ at' < (es.length : Int)
    · obtain ⟨k, rfl⟩ : ∃ k : Nat, at' = (k : Int) := ⟨at'.toNat, by omega⟩
      have hk : k < es.length := by omega
      have e1 : (decide (0 ≤ (k : Int)) && decide ((k : Int) ≤ (es.length : Int) - 1)) = true := by simp; omega
      have HI2 : Hid (∀ w', Calls Tryd.prog 42 #[.int .i64 (k : Int), .int .i64 0, .int .i64 ((es.length : Int) - 1)] w' fun e w1 => e = .returned (.bool true) ∧ w1 = w') := hid (fun w' => by have h := HI.out w'; rw [e1] at h; exact h)
      have HFZ := hid hf
      clear HI e1 hr hf
      have q1 : (k : Int) < (es.length : Int) := by omega
      have sm : es[k].attrs.length ≤ 1048576 := by have := small_elem HL.out hk; omega
      go_enter Tryd.func24, Tryd.ntmps24
      go_wp2_with fail
      refine HF.out.mono ?_
      rintro e w1 ⟨rfl, hb1⟩
      have B1 : Below w.heap.size w w1 := hb0.trans (hb1.mono (by simp))
      obtain ⟨g, o, va, rfl, hg, c0, c1, c2, hva⟩ := (HA.out.below B1).at hk
      obtain ⟨a3, c3, rfl⟩ := hva.slice
      have HVL := hid (specValue1 B es[k].attrs a3 c3 g (o + k * 3) nm w1 sm c2 hva)
      clear hva
      simp only [World.size_alloc] at hb1
      have l1 : w.heap.size < w1.heap.size := by have := hb1.size; simp at this; omega
      have r0 := kept_cell hb1 (b := w.heap.size) (o := 0) (v := .int .i64 0) (by omega) (by go_simp)
      have r1 := kept_cell hb1 (b := w.heap.size) (o := 1) (v := .string { data := #[] }) (by omega) (by go_simp)
      have f0 := kept_free hb1 (b := w.heap.size) (o := 0) (by omega) (by go_simp)
      have f1 := kept_free hb1 (b := w.heap.size) (o := 1) (by omega) (by go_simp)
      go_wp2_with (first | (go_at_call 42; refine (HI2.out _).mono ?_; rintro e w' ⟨rfl, rfl⟩))
      refine HVL.out.mono ?_
      rintro e w2 ⟨hcase, rfl⟩
      rcases hcase with ⟨hneg, rfl⟩ | ⟨j, hj, hjx, rfl⟩
      · have HV := hid (val_none HFZ.out hk hneg)
        clear hneg
        go_wp2
        exact bodyPost_ret (v := .agg #[.int .i64 4, .string { data := #[] }]) (by simp [results, Tryd.results24, go_sem, r0, r1]) rfl ⟨ret_agg HV.out.1.symm HV.out.2.symm, setB (setB B1 (Nat.le_refl _) _) (Nat.le_refl _) _⟩
      · have HV := hid (val_ok HFZ.out hk hjx hj)
        clear hjx
        go_wp2
        exact bodyPost_ret (v := .agg #[.int .i64 0, .string es[k].attrs[j].value]) (by simp [results, Tryd.results24, go_sem, r0, r1]) rfl ⟨ret_agg HV.out.1.symm HV.out.2.symm, setB (setB B1 (Nat.le_refl _) _) (Nat.le_refl _) _⟩
    · have HV := hid (val_range (nm := nm) hf hr)
      have e1 : (decide (0 ≤ at') && decide (at' ≤ (es.length : Int) - 1)) = false := by
        rw [← Bool.not_eq_true]; intro e; apply hr; simp at e; omega
      have HI2 : Hid (∀ w', Calls Tryd.prog 42 #[.int .i64 at', .int .i64 0, .int .i64 ((es.length : Int) - 1)] w' fun e w1 => e = .returned (.bool false) ∧ w1 = w') := hid (fun w' => by have h := HI.out w'; rw [e1] at h; exact h)
      clear HI e1 hr hf
      go_enter Tryd.func24, Tryd.ntmps24
      go_wp2_with fail
      refine HF.out.mono ?_
      rintro e w1 ⟨rfl, hb1⟩
      have B1 : Below w.heap.size w w1 := hb0.trans (hb1.mono (by simp))
      simp only [World.size_alloc] at hb1
      have l1 : w.heap.size < w1.heap.size := by have := hb1.size; simp at this; omega
      have r0 := kept_cell hb1 (b := w.heap.size) (o := 0) (v := .int .i64 0) (by omega) (by go_simp)
      have r1 := kept_cell hb1 (b := w.heap.size) (o := 1) (v := .string { data := #[] }) (by omega) (by go_simp)
      have f0 := kept_free hb1 (b := w.heap.size) (o := 0) (by omega) (by go_simp)
      have f1 := kept_free hb1 (b := w.heap.size) (o := 1) (by omega) (by go_simp)
      go_wp2_with (go_at_call 42; refine (HI2.out _).mono ?_; rintro e w' ⟨rfl, rfl⟩)
      exact bodyPost_ret (v := .agg #[.int .i64 3, .string { data := #[] }]) (by simp [results, Tryd.results24, go_sem, r0, r1]) rfl ⟨ret_agg HV.out.1.symm HV.out.2.symm, setB (setB B1 (Nat.le_refl _) _) (Nat.le_refl _) _⟩
  · have HV := hid (val_fault (at' := at') (nm := nm) hf)
    have b1 : (fault es != 0) = true := by simpa using hf
    clear hf HI
    go_enter Tryd.func24, Tryd.ntmps24
    go_wp2_with fail
    refine HF.out.mono ?_
    rintro e w1 ⟨rfl, hb1⟩
    have B1 : Below w.heap.size w w1 := hb0.trans (hb1.mono (by simp))
    simp only [World.size_alloc] at hb1
    have l1 : w.heap.size < w1.heap.size := by have := hb1.size; simp at this; omega
    have r0 := kept_cell hb1 (b := w.heap.size) (o := 0) (v := .int .i64 0) (by omega) (by go_simp)
    have r1 := kept_cell hb1 (b := w.heap.size) (o := 1) (v := .string { data := #[] }) (by omega) (by go_simp)
    have f0 := kept_free hb1 (b := w.heap.size) (o := 0) (by omega) (by go_simp)
    have f1 := kept_free hb1 (b := w.heap.size) (o := 1) (by omega) (by go_simp)
    go_wp2
    exact bodyPost_ret (v := .agg #[.int .i64 (fault es), .string { data := #[] }]) (by simp [results, Tryd.results24, go_sem, r0, r1]) rfl ⟨ret_agg HV.out.1.symm HV.out.2.symm, setB (setB B1 (Nat.le_refl _) _) (Nat.le_refl _) _⟩
end Tr
end Go.Proofs.YtlnmegfcecpfmahDoor
