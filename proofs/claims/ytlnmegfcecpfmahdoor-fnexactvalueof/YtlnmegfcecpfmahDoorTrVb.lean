/- ValueOf of the program. Condition: the table of entities lies as its initialiser lays it. -/
import Derived.Test.YtlnmegfcecpfmahDoorTrVa
namespace Go.Proofs.YtlnmegfcecpfmahDoor
open Go.RowKit
set_option linter.unusedVariables false
namespace Tr
set_option maxRecDepth 100000 in
set_option maxHeartbeats 1000000 in
theorem cloneStr (s : ByteArray) (w : World) (hs : s.size ≤ 1048576) : Calls Tryd.prog 52 #[.string s] w fun e w' => e = .returned (.string s) ∧ Below w.heap.size w w' := by
  go_enter Tryd.func52, Tryd.ntmps52
  go_wp2_with fail
  refine (Tryd.stringslite_Clone s _ (by omega)).mono ?_
  rintro e w1 ⟨rfl, hb⟩
  go_wp2
  go_ret
  exact ⟨rfl, hb⟩
set_option maxRecDepth 100000 in
set_option maxHeartbeats 2000000 in
theorem implValueOf (es : List ElemD) (v : Value) (at' : Int) (nm : ByteArray) (w : World) (hl : SmallE 1048576 es) (hk : OkE es) (ha : ElemsAt w 0 v es) (he : Esc.Ent w) (hw : 0 < w.heap.size) :
    Calls Tryd.prog 25 #[v, .int .i64 at', .string nm] w fun e w' => e = .returned (.agg #[.int .i64 (valCode es at' nm), .string (valText es at' nm)]) ∧ Below w.heap.size w w' := by
  obtain ⟨a, cap, rfl⟩ := ha.slice
  have hlen := hl.1
  have hb0 : Below w.heap.size w (w.alloc (.cells #[.int .i64 0, .string { data := #[] }] 25)) := (Below.refl _ w).alloc (Nat.le_refl _) _
  have HF := hid (elemTree es _ (w.alloc (.cells #[.int .i64 0, .string { data := #[] }] 25)) hl hk (ha.below hb0) (Esc.Ent.below he hb0 hw) (by simp))
  have HA := hid ha
  have HL := hid hl
  have HK := hid hk
  clear ha hl hk
  go_enter Tryd.func25, Tryd.ntmps25
  go_wp2_with fail
  refine HF.out.mono ?_
  rintro e w1 ⟨⟨v1, rfl, hv1, hv2⟩, hb1⟩
  have B1 : Below w.heap.size w w1 := hb0.trans (hb1.mono (by simp))
  have HB1 := hid hb1
  simp only [World.size_alloc] at hb1
  have l1 : w.heap.size < w1.heap.size := by have := hb1.size; simp at this; omega
  have r0 := kept_cell hb1 (b := w.heap.size) (o := 0) (v := .int .i64 0) (by omega) (by go_simp)
  have r1 := kept_cell hb1 (b := w.heap.size) (o := 1) (v := .string { data := #[] }) (by omega) (by go_simp)
  have f0 := kept_free hb1 (b := w.heap.size) (o := 0) (by omega) (by go_simp)
  have f1 := kept_free hb1 (b := w.heap.size) (o := 1) (by omega) (by go_simp)
  by_cases hf : fault es = 0
  · have b1 : (fault es != 0) = false := by simp [hf]
    obtain ⟨T, hT, hI⟩ := hv2 hf
    obtain ⟨at4, ct4, rfl⟩ := hT.slice
    have HT := hid hT
    have HTI := hid hI
    clear hT hI hv1 hv2
    have HH := hid (fun w' => hasPlace at4 es.length ct4 at' w' (by omega))
    by_cases hr : 0 ≤ at' ∧ at' < (es.length : Int)
    · obtain ⟨k, rfl⟩ : ∃ k : Nat, at' = (k : Int) := ⟨at'.toNat, by omega⟩
      have hk : k < es.length := by omega
      have e1 : (decide (0 ≤ (k : Int)) && decide ((k : Int) < (es.length : Int))) = true := by simp; omega
      have HH2 : Hid (∀ w', Calls Tryd.prog 44 #[.slice at4 es.length ct4, .int .i64 (k : Int)] w' fun e w1 => e = .returned (.bool true) ∧ w1 = w') := hid (fun w' => by have h := HH.out w'; rw [e1] at h; exact h)
      have HFZ := hid hf
      clear HH e1 hr hf
      have q1 : (k : Int) < (es.length : Int) := by omega
      have sm : es[k].attrs.length ≤ 1048576 := by have := small_elem HL.out hk; omega
      obtain ⟨g, rfl, _, hB, hg, c0, c1, c2, c3', c4, c5, _⟩ := HT.out.at hk
      have hva := (HTI.out.va k hk hk).below HB1.out
      generalize (T k).va = va at *
      obtain ⟨a3, c3, rfl⟩ := hva.slice
      have HVA := hid hva
      have HP := hid (implPlace 0 es[k].attrs _ nm w1 sm hva)
      have hlo := idx_lo es[k].attrs nm
      clear hva c0 c1 c3' c4 c5
      by_cases hneg : attrIdx es[k].attrs nm < 0
      · have HV := hid (val_none HFZ.out hk hneg)
        have em : attrIdx es[k].attrs nm = -1 := by omega
        rw [em] at HP
        have b2 : ((-1 : Int) == -1) = true := by decide
        clear hneg em hlo
        go_wp2_with (first | (go_at_call 44; refine (HH2.out _).mono ?_; rintro e w' ⟨rfl, rfl⟩))
        refine HP.out.mono ?_
        rintro e w2 ⟨rfl, hb2⟩
        have B2 := B1.trans (hb2.mono B1.size)
        have l2 : w.heap.size < w2.heap.size := by have := hb2.size; omega
        have s0 := kept_cell hb2 (by omega) r0
        have s1 := kept_cell hb2 (by omega) r1
        have t0 := kept_free hb2 (by omega) f0
        have t1 := kept_free hb2 (by omega) f1
        go_wp2
        exact bodyPost_ret (v := .agg #[.int .i64 4, .string { data := #[] }]) (by simp [results, Tryd.results25, go_sem, s0, s1]) rfl ⟨ret_agg HV.out.1.symm HV.out.2.symm, setB (setB B2 (Nat.le_refl _) _) (Nat.le_refl _) _⟩
      · obtain ⟨j, hj⟩ : ∃ j : Nat, attrIdx es[k].attrs nm = (j : Int) := ⟨(attrIdx es[k].attrs nm).toNat, by omega⟩
        have hjl := idx_lt hj
        have HV := hid (val_ok HFZ.out hk hj hjl)
        rw [hj] at HP
        have b2 : ((j : Int) == -1) = false := beq_eq_false_iff_ne.2 (by omega)
        have q2 : (j : Int) < (es[k].attrs.length : Int) := by omega
        have hok : es[k].attrs[j].value.size ≤ 1048576 := by have := ((HL.out.2 es[k] (List.getElem_mem hk)).2.2 es[k].attrs[j] (List.getElem_mem hjl)).2; omega
        clear hneg hj hlo
        go_wp2_with (first | (go_at_call 44; refine (HH2.out _).mono ?_; rintro e w' ⟨rfl, rfl⟩))
        refine HP.out.mono ?_
        rintro e w2 ⟨rfl, hb2⟩
        obtain ⟨g3, o3, rfl, hg3, d0, d1⟩ := (HVA.out.below hb2).at hjl
        have B2 := B1.trans (hb2.mono B1.size)
        have s0 := kept_cell hb2 (by omega) r0
        have s1 := kept_cell hb2 (by omega) r1
        have t0 := kept_free hb2 (by omega) f0
        have t1 := kept_free hb2 (by omega) f1
        have l2 : w.heap.size < w2.heap.size := by have := hb2.size; omega
        go_wp2_with fail
        refine (cloneStr es[k].attrs[j].value _ hok).mono ?_
        rintro e w3 ⟨rfl, hb3⟩
        have B3 := B2.trans (hb3.mono B2.size)
        have l3 : w.heap.size < w3.heap.size := by have := hb3.size; omega
        have u0 := kept_cell hb3 (by omega) s0
        have u1 := kept_cell hb3 (by omega) s1
        have v0 := kept_free hb3 (by omega) t0
        have v1 := kept_free hb3 (by omega) t1
        go_wp2
        exact bodyPost_ret (v := .agg #[.int .i64 0, .string es[k].attrs[j].value]) (by simp [results, Tryd.results25, go_sem, u0, u1]) rfl ⟨ret_agg HV.out.1.symm HV.out.2.symm, setB (setB B3 (Nat.le_refl _) _) (Nat.le_refl _) _⟩
    · have HV := hid (val_range (nm := nm) hf hr)
      have e1 : (decide (0 ≤ at') && decide (at' < (es.length : Int))) = false := by
        rw [← Bool.not_eq_true]; intro e; apply hr; simpa using e
      have HH2 : Hid (∀ w', Calls Tryd.prog 44 #[.slice at4 es.length ct4, .int .i64 at'] w' fun e w1 => e = .returned (.bool false) ∧ w1 = w') := hid (fun w' => by have h := HH.out w'; rw [e1] at h; exact h)
      clear HH e1 hr hf
      go_wp2_with (go_at_call 44; refine (HH2.out _).mono ?_; rintro e w' ⟨rfl, rfl⟩)
      exact bodyPost_ret (v := .agg #[.int .i64 3, .string { data := #[] }]) (by simp [results, Tryd.results25, go_sem, r0, r1]) rfl ⟨ret_agg HV.out.1.symm HV.out.2.symm, setB (setB B1 (Nat.le_refl _) _) (Nat.le_refl _) _⟩
  · have HV := hid (val_fault (at' := at') (nm := nm) hf)
    have b1 : (fault es != 0) = true := by simpa using hf
    obtain rfl := hv1 hf
    clear hf hv1 hv2
    go_wp2
    exact bodyPost_ret (v := .agg #[.int .i64 (fault es), .string { data := #[] }]) (by simp [results, Tryd.results25, go_sem, r0, r1]) rfl ⟨ret_agg HV.out.1.symm HV.out.2.symm, setB (setB B1 (Nat.le_refl _) _) (Nat.le_refl _) _⟩
end Tr
end Go.Proofs.YtlnmegfcecpfmahDoor
