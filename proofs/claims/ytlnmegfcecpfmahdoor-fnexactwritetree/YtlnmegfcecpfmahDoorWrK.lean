/- WriteTree of the program. Condition: the table of entities lies as its initialiser lays it. -/
import Derived.Test.YtlnmegfcecpfmahDoorWrJ
namespace Go.Proofs.YtlnmegfcecpfmahDoor
open Go.RowKit
set_option linter.unusedVariables false
namespace Tr
theorem fresh1 (w : World) : Lib.IsBuilderF 65 5 w.heap.size w.heap.size (Lib.byteCells []) (w.alloc (.cells #[.pointer none, .slice none 0 0] 65)) :=
  Lib.IsBuilderF.of (Lib.fresh_isBuilder 65 5 w)
set_option maxRecDepth 100000 in
set_option maxHeartbeats 2000000 in
theorem implWriteTree (es : List ElemD) (v : Value) (w : World) (hl : SmallE 1048576 es) (hk : OkE es) (ha : ElemsAt w 0 v es) (he : Esc.Ent w) (hw : 0 < w.heap.size) :
    Calls Tryd.prog 10 #[v] w fun e w' => e = .returned (.agg #[.int .i64 (wcode es), .string ⟨(wtext es).toArray⟩]) ∧ Below w.heap.size w w' := by
  obtain ⟨a, cap, rfl⟩ := ha.slice
  have hlen := hl.1
  have hb0 : Below w.heap.size w (w.alloc (.cells #[.int .i64 0, .string { data := #[] }] 25)) := (Below.refl _ w).alloc (Nat.le_refl _) _
  have HF := hid (elemTree es _ (w.alloc (.cells #[.int .i64 0, .string { data := #[] }] 25)) hl hk (ha.below hb0) (Esc.Ent.below he hb0 hw) (by simp))
  have HE := hid (Esc.Ent.below he hb0 hw)
  clear ha hl hk he
  go_enter Tryd.func10, Tryd.ntmps10
  go_wp2_with fail
  refine HF.out.mono ?_
  rintro e w1 ⟨⟨v1, rfl, hv1, hv2⟩, hb1⟩
  have B1 : Below w.heap.size w w1 := hb0.trans (hb1.mono (by simp))
  have HB1 := hid hb1
  simp only [World.size_alloc] at hb1
  have l1 : w.heap.size < w1.heap.size := by have := hb1.size; simp at this; omega
  have r0 := kept_cell hb1 (b := w.heap.size) (o := 0) (v := .int .i64 0) (by omega) (by go_simp)
  have r1 := kept_cell hb1 (b := w.heap.size) (o := 1) (v := .string { data := #[] }) (by omega) (by go_simp)
  have f0 := kept_free hb1 (b := w.heap.size) (o := 0) (by omega) (by go_simp)
  have f1 := kept_free hb1 (b := w.heap.size) (o := 1) (by omega) (by go_simp)
  by_cases hf : fault es = 0
  · have b1 : (fault es != 0) = false := by simp [hf]
    obtain ⟨T, hT, hI⟩ := hv2 hf
    have hG := good_of hf
    have HLD : Hid (Laid w1 es v1 T) := hid ⟨hG, ⟨_, hT⟩, fun j h => hI.tag j h h, fun j h => hI.par j h h, fun j h => (hI.va j h h).below HB1.out, fun j h => hI.kids j h, Esc.Ent.below HE.out HB1.out (by simp), by omega⟩
    have HFZ := hid hf
    have hle := hG.le
    have hpos := hG.pos
    have HWR := hid (writeElem es v1 T w1 HLD.out w1.heap.size (Nat.le_refl _) es.length 0 [] (w1.alloc (.cells #[.pointer none, .slice none 0 0] 65)) hpos (by omega) hle (by simp only [List.length_nil]; omega) ((Below.refl _ w1).alloc (Nat.le_refl _) _) (fresh1 w1))
    have hwl := wr_len hG es.length hpos
    have hBa : Below w1.heap.size w1 (w1.alloc (.cells #[.pointer none, .slice none 0 0] 65)) := (Below.refl _ w1).alloc (Nat.le_refl _) _
    obtain ⟨at4, ct4, rfl⟩ := hT.slice
    clear hT hI hv1 hv2 hf hG
    cases hok : okF es es.length 0
    · have HV := hid (w_many HFZ.out (fun h => by rw [hok] at h; exact absurd h.1 (by decide)))
      rw [hok] at HWR
      clear hok
      go_wp2_with (go_at_call 32; refine HWR.out.mono ?_; rintro e w3 ⟨rfl, _, hb3, _⟩; have l3 : w.heap.size < w3.heap.size := by {have := (hBa.trans hb3).size; omega}; have u0 := kept_cell (hBa.trans hb3) l1 r0; have u1 := kept_cell (hBa.trans hb3) l1 r1; have x0 := kept_free (hBa.trans hb3) l1 f0; have x1 := kept_free (hBa.trans hb3) l1 f1; have B3 := B1.trans ((hBa.trans hb3).mono B1.size))
      exact bodyPost_ret (v := .agg #[.int .i64 2, .string { data := #[] }]) (by simp [results, Tryd.results10, go_sem, u0, u1]) rfl ⟨ret_txt (s := []) HV.out.1.symm HV.out.2.symm, setB (setB B3 (Nat.le_refl _) _) (Nat.le_refl _) _⟩
    · have HO := hid hok
      rw [hok] at HWR
      clear hok
      by_cases h15 : (wrF es es.length 0).length ≤ 1500
      · have HV := hid (w_ok HFZ.out HO.out h15)
        generalize wrF es es.length 0 = tx at *
        have b2 : ¬ (1500 : Int) < (tx.length : Int) := by omega
        go_wp2_with (first
          | (go_at_call 32; refine HWR.out.mono ?_; rintro e w3 ⟨rfl, hI3, hb3, _⟩; have HI3 := hid (hI3 trivial); rw [List.nil_append] at HI3; clear hI3; have hz3 := (hBa.trans hb3).size; have l3 : w.heap.size < w3.heap.size := by {omega}; have u0 := kept_cell (hBa.trans hb3) l1 r0; have u1 := kept_cell (hBa.trans hb3) l1 r1; have x0 := kept_free (hBa.trans hb3) l1 f0; have x1 := kept_free (hBa.trans hb3) l1 f1; have B3 := B1.trans ((hBa.trans hb3).mono B1.size))
          | (go_at_call 33; refine (Tryd.Builder_Len_f _ _ _ _ HI3.out).mono ?_; rintro e w4 ⟨rfl, rfl⟩; rw [Lib.byteCells_length])
          | (go_at_call 34; refine (Tryd.Builder_String_any_k _ _ _ _ HI3.out hz3).mono ?_; rintro e w4 ⟨rfl, _, hb4, _⟩; have l4 : w.heap.size < w4.heap.size := by {have := hb4.size; omega}; have u40 := kept_cell hb4 l1 u0; have u41 := kept_cell hb4 l1 u1; have x40 := kept_free hb4 l1 x0; have x41 := kept_free hb4 l1 x1; have B4 := B3.trans (hb4.mono B1.size)))
        exact bodyPost_ret (v := .agg #[.int .i64 0, .string ⟨tx.toArray⟩]) (by simp [results, Tryd.results10, go_sem, u40, u41]) rfl ⟨ret_txt HV.out.1.symm HV.out.2.symm, setB (setB B4 (Nat.le_refl _) _) (Nat.le_refl _) _⟩
      · have HV := hid (w_many HFZ.out (fun h => h15 h.2))
        generalize wrF es es.length 0 = tx at *
        have b2 : (1500 : Int) < (tx.length : Int) := by omega
        go_wp2_with (first
          | (go_at_call 32; refine HWR.out.mono ?_; rintro e w3 ⟨rfl, hI3, hb3, _⟩; have HI3 := hid (hI3 trivial); rw [List.nil_append] at HI3; clear hI3; have hz3 := (hBa.trans hb3).size; have l3 : w.heap.size < w3.heap.size := by {omega}; have u0 := kept_cell (hBa.trans hb3) l1 r0; have u1 := kept_cell (hBa.trans hb3) l1 r1; have x0 := kept_free (hBa.trans hb3) l1 f0; have x1 := kept_free (hBa.trans hb3) l1 f1; have B3 := B1.trans ((hBa.trans hb3).mono B1.size))
          | (go_at_call 33; refine (Tryd.Builder_Len_f _ _ _ _ HI3.out).mono ?_; rintro e w4 ⟨rfl, rfl⟩; rw [Lib.byteCells_length]))
        exact bodyPost_ret (v := .agg #[.int .i64 2, .string { data := #[] }]) (by simp [results, Tryd.results10, go_sem, u0, u1]) rfl ⟨ret_txt (s := []) HV.out.1.symm HV.out.2.symm, setB (setB B3 (Nat.le_refl _) _) (Nat.le_refl _) _⟩
  · have HV := hid (w_fault hf)
    have b1 : (fault es != 0) = true := by simpa using hf
    obtain rfl := hv1 hf
    clear hf hv1 hv2
    go_wp2
    exact bodyPost_ret (v := .agg #[.int .i64 (fault es), .string { data := #[] }]) (by simp [results, Tryd.results10, go_sem, r0, r1]) rfl ⟨ret_txt (s := []) HV.out.1.symm HV.out.2.symm, setB (setB B1 (Nat.le_refl _) _) (Nat.le_refl _) _⟩
end Tr
end Go.Proofs.YtlnmegfcecpfmahDoor
