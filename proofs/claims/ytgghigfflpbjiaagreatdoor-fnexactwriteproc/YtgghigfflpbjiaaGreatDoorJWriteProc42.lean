/- A mark that begins an element, and one that ends it, as the program writes them. Condition: the table of entities lies as its initialiser lays it. -/
import Derived.Test.YtgghigfflpbjiaaGreatDoorJWriteProc23
import Derived.Test.YtgghigfflpbjiaaGreatDoorJWriteProc24
import Derived.Deep.RegionHeld3
import Derived.Deep.RegionWith
namespace Go.Proofs.YtgghigfflpbjiaaGreatDoor
open Go.RowKit
set_option linter.unusedVariables false
namespace Tr
open Esc (esc escAll escAll_len)
theorem isb_below {T e : TypeId} {B b : Nat} {bs : List Value} {w w' : World} (h : Lib.IsBuilderF T e B b bs w) (hb : Below w.heap.size w w') : Lib.IsBuilderF T e B b bs w' := by
  have step : ∀ {p : Value}, Lib.BuilderAtF T e B b p bs w → Lib.BuilderAtF T e B b p bs w' := fun {p} h => by
    obtain ⟨h1, v, h2, h3, h4⟩ := h
    refine ⟨h1, v, by rw [hb.block b (Array.getElem?_eq_some_iff.1 h2).1]; exact h2, h3.kept (row := none) ⟨hb.os, hb.tape, hb.output, hb.size, fun k hk _ => hb.block k hk⟩ (by cases v.ownBlock <;> simp), h4⟩
  exact h.elim (fun x => .inl (step x)) (fun x => .inr (step x))
theorem others_below {e : TypeId} {b : Option Nat} {w w' : World} (h : Below w.heap.size w w') : Lib.OthersKept e b w w' := fun k o hk _ _ => by
  rw [h.block k (Array.getElem?_eq_some_iff.1 hk).1]; exact hk
theorem cells_app (l : List UInt8) (s : ByteArray) : Lib.byteCells l ++ Lib.strCells s = Lib.byteCells (l ++ s.data.toList) := by simp [Lib.byteCells, Lib.strCells]
theorem others_heap {b k : Nat} {w w' : World} {c : Array Value} {t : TypeId} {fz : Nat × Nat} (h : Lib.OthersKept 5 (some b) w w') (hk : w.heap[k]? = some (.cells c t fz)) (hb : k ≠ b) (ht : t ≠ 5) : w'.heap[k]? = some (.cells c t fz) :=
  h k _ hk (fun e => hb (Option.some.inj e)) (fun c' fz' e => by cases e; exact ht rfl)
theorem add_str (a b : ByteArray) (h : a.size + b.size ≤ 1000000) (w : World) : Sem.run Tryz.prog (Op.stringOp .add a b) w = .ok (.string (a ++ b)) w := run_string_add_sum w a b (by omega)
theorem fld1 (c : Int) (t : ByteArray) (w : World) : Sem.run Tryz.prog (Instr.field 36 (.agg #[.int .i64 c, .string t]) 1) w = .ok (.string t) w := by kernel_rfl
theorem bytes_piece (a : AttrD) : (ByteArray.mk #[32] ++ a.name ++ ByteArray.mk #[61, 34] ++ ByteArray.mk (escAll a.value.data.toList).toArray ++ ByteArray.mk #[34]).data.toList = piece a := by simp [piece]
set_option maxRecDepth 100000 in
set_option maxHeartbeats 400000 in
theorem endOf (t : ByteArray) (w : World) (ht : t.size ≤ 8) : Calls Tryz.prog 90 #[.string t] w fun e w' => e = .returned (.string ⟨([60, 47] ++ t.data.toList ++ [62]).toArray⟩) ∧ w' = w := by
  go_enter Tryz.func90, Tryz.ntmps90
  go_wp2
  go_ret
  exact ⟨by apply congrArg Ending.returned; apply congrArg Value.string; apply ByteArray.ext; simp, rfl⟩
set_option maxRecDepth 100000 in
set_option maxHeartbeats 4000000 in
theorem beginOf (B0 : Nat) (x : ElemD) (va : Value) (cl : Bool) (w : World) (ha : AttrsAt w B0 va x.attrs) (he : Esc.Ent w) (hw : 2 < w.heap.size) (ht8 : x.tag.size ≤ 8) (hl6 : x.attrs.length ≤ 6) (hat : ∀ a ∈ x.attrs, nf a.name.data.toList = 0 ∧ vcode a.value.data.toList = 0) :
    Calls Tryz.prog 88 #[.agg #[.string x.tag, .int .i64 x.parent, va], .bool cl] w fun e w' => e = .returned (.string ⟨(markB x cl).toArray⟩) ∧ Below w.heap.size w w' := by
  obtain ⟨b, e2, rfl⟩ := ha.slice
  have hbx : Below w.heap.size w ((w.alloc (.cells #[.string x.tag, .int .i64 x.parent, .slice b x.attrs.length e2] 53)).alloc (.cells #[.pointer none, .slice none 0 0] 99)) := ((Below.refl _ w).alloc (Nat.le_refl _) _).alloc (by simp) _
  have hI0 := Esc.fresh w (.cells #[.string x.tag, .int .i64 x.parent, .slice b x.attrs.length e2] 53)
  have HA := hid ha
  have HE := hid he
  have HAT := hid hat
  clear ha he hat
  go_enter Tryz.func88, Tryz.ntmps88
  go_wp2_with fail
  have hsz : (ByteArray.mk #[60] ++ x.tag).size ≤ 9 := by
    have : (ByteArray.mk #[60] ++ x.tag).size = 1 + x.tag.size := by simp; rfl
    omega
  refine (Bld.writeString (w.heap.size + 1) (w.heap.size + 1) (Lib.byteCells []) (ByteArray.mk #[60] ++ x.tag) _ hI0 (by rw [Lib.byteCells_length]; simp only [List.length_nil]; omega) (by simp)).mono ?_
  rintro e w1 ⟨rfl, hI1, hb1, hk1⟩
  have hI1' : Lib.IsBuilderF 99 5 (w.heap.size + 1) (w.heap.size + 1) (Lib.byteCells (60 :: x.tag.data.toList)) w1 := by
    have h : Lib.IsBuilderF 99 5 (w.heap.size + 1) (w.heap.size + 1) (Lib.byteCells [] ++ Lib.strCells (ByteArray.mk #[60] ++ x.tag)) w1 := .inr hI1
    rw [cells_app] at h
    have e : [] ++ (ByteArray.mk #[60] ++ x.tag).data.toList = 60 :: x.tag.data.toList := by simp
    rw [e] at h
    exact h
  have B1 : Below w.heap.size w w1 := hbx.trans (hb1.mono (by omega))
  have hz1 := Esc.blt hI1'
  have c2 := kept_cell hb1 (b := w.heap.size) (o := 2) (v := .slice b x.attrs.length e2) (by omega) (by go_simp)
  have HI1 := hid hI1'
  clear hI1 hI1' hb1 hk1 hI0 hbx
  go_wp2_with fail
  go_loopw [7, 15] (fun _ i wr => ∃ (j : Nat) (acc : List UInt8), i = .int .i64 j ∧ j ≤ x.attrs.length ∧ acc.length ≤ 9 + 252 * j ∧ Hid (acc = 60 :: x.tag.data.toList ++ pieces (x.attrs.take j)) ∧ Hid (Lib.IsBuilderF 99 5 (w.heap.size + 1) (w.heap.size + 1) (Lib.byteCells acc) wr) ∧ Below w.heap.size w wr) (fun _ i _ => x.attrs.length - (intOf i).toNat)
  case atStart => exact ⟨0, _, rfl, Nat.zero_le _, by simp; omega, hid (by simp [pieces]), HI1, B1⟩
  case round =>
    obtain ⟨j, acc, rfl, hj, hacc, HC, HI, hbel⟩ := hrel
    have hz := Esc.blt HI.out
    by_cases hlt : j < x.attrs.length
    · obtain ⟨g3, o3, rfl, hg3, n0, n1⟩ := (HA.out.below hbel).at hlt
      have q1 : (j : Int) < (x.attrs.length : Int) := by omega
      have hat := HAT.out x.attrs[j] (List.getElem_mem hlt)
      have hn8 : x.attrs[j].name.size ≤ 8 := by rw [← len_size']; exact nf_len hat.1
      have hv40 : x.attrs[j].value.size ≤ 40 := by rw [← len_size']; exact v_len hat.2
      have hel := escAll_len x.attrs[j].value.data.toList
      rw [len_size'] at hel
      have hpl := piece_len hat.1 hat.2
      have HEV := hid (Esc.escVal_ok (l := x.attrs[j].value.data.toList) hat.2)
      have HC2 : Hid (acc ++ piece x.attrs[j] = 60 :: x.tag.data.toList ++ pieces (x.attrs.take (j + 1))) := hid (by rw [pieces_snoc hlt, HC.out]; simp)
      have HPC := hid (bytes_piece x.attrs[j])
      have hps : (ByteArray.mk #[32] ++ x.attrs[j].name ++ ByteArray.mk #[61, 34] ++ ByteArray.mk (escAll x.attrs[j].value.data.toList).toArray ++ ByteArray.mk #[34]).size ≤ 252 := by
        rw [← len_size', HPC.out]; exact hpl
      have HENT := hid (fun w' (hb : Below wr.heap.size wr w') => Esc.implEsc x.attrs[j].value w' (by unfold maxLen; omega) (Esc.Ent.below (Esc.Ent.below HE.out hbel hw) hb (by omega)) (by have := hb.size; omega))
      generalize hax : x.attrs[j] = ax at *
      clear hat hax
      have hB0 : Below wr.heap.size wr (wr.alloc (.cells #[.string ax.name, .string ax.value] 68)) := (Below.refl _ wr).alloc (Nat.le_refl _) _
      have m0 : (wr.alloc (.cells #[.string ax.name, .string ax.value] 68)).cell? ⟨wr.heap.size, 0, none⟩ = some (.string ax.name) := by go_simp
      have m1 : (wr.alloc (.cells #[.string ax.name, .string ax.value] 68)).cell? ⟨wr.heap.size, 1, none⟩ = some (.string ax.value) := by go_simp
      have mh : (wr.alloc (.cells #[.string ax.name, .string ax.value] 68)).heap[wr.heap.size]? = some (.cells #[.string ax.name, .string ax.value] 68 (0, 0)) := World.alloc_heap_new wr _
      have z32 : (ByteArray.mk #[32]).size = 1 := rfl
      have z61 : (ByteArray.mk #[61, 34]).size = 2 := rfl
      have z34 : (ByteArray.mk #[34]).size = 1 := rfl
      have zes : (ByteArray.mk (escAll ax.value.data.toList).toArray).size = (escAll ax.value.data.toList).length := by simp [ByteArray.size]
      have ad1 := add_str (ByteArray.mk #[32]) ax.name (by omega)
      have ad2 := add_str (ByteArray.mk #[32] ++ ax.name) (ByteArray.mk #[61, 34]) (by simp only [ByteArray.size_append]; omega)
      have ad3 := add_str (ByteArray.mk #[32] ++ ax.name ++ ByteArray.mk #[61, 34]) (ByteArray.mk (escAll ax.value.data.toList).toArray) (by simp only [ByteArray.size_append]; omega)
      have ad4 := add_str (ByteArray.mk #[32] ++ ax.name ++ ByteArray.mk #[61, 34] ++ ByteArray.mk (escAll ax.value.data.toList).toArray) (ByteArray.mk #[34]) (by simp only [ByteArray.size_append]; omega)
      clear z32 z61 z34 zes
      have hsA : (wr.alloc (.cells #[.string ax.name, .string ax.value] 68)).heap.size = wr.heap.size + 1 := by simp
      go_wp2_with fail
      generalize wr.alloc (.cells #[.string ax.name, .string ax.value] 68) = WA at *
      have HIA := hid (isb_below HI.out hB0)
      have hBD : Below WA.heap.size WA WA.drew := (Below.refl _ WA).drew
      have hBwA : Below w.heap.size w WA := hbel.trans (hB0.mono hbel.size)
      go_region_held3 (fun wx => wx.cell? ⟨wr.heap.size, 0, none⟩ = some (.string ax.name) ∧ wx.cell? ⟨wr.heap.size, 1, none⟩ = some (.string ax.value) ∧ Below w.heap.size w wx) (refine ⟨?_, ?_, ?_⟩ <;> first | assumption | exact hBwA.drew | (simp [*]; done)) (first
        | (go_at_call 108; refine (HENT.out _ ?_).mono ?_; exact hB0.trans (hBD.mono (by omega)); rintro e w4 ⟨rfl, hb4⟩; rw [HEV.out]; have hB4 : Below WA.heap.size WA w4 := hBD.trans hb4; clear hb4; have hBw4 : Below w.heap.size w w4 := (hbel.trans (hB0.mono hbel.size)).trans (hB4.mono (by omega)); have mh4 : w4.heap[wr.heap.size]? = some (.cells #[.string ax.name, .string ax.value] 68 (0, 0)) := by {rw [hB4.block _ (by omega)]; exact mh}; have k0 : w4.cell? ⟨wr.heap.size, 0, none⟩ = some (.string ax.name) := kept_cell hB4 (by omega) m0; have k1 : w4.cell? ⟨wr.heap.size, 1, none⟩ = some (.string ax.value) := kept_cell hB4 (by omega) m1; have hfl := fld1 0 ⟨(escAll ax.value.data.toList).toArray⟩; have HI4 := hid (isb_below HIA.out hB4); have hz4 := hB4.size)
        | (go_at_call 89; refine (Bld.writeString (w.heap.size + 1) (w.heap.size + 1) (Lib.byteCells acc) _ _ HI4.out ?_ ?_).mono ?_; (rw [Lib.byteCells_length]; omega); omega; rintro e w5 ⟨rfl, hI5, hb5, hk5⟩; have hBw5 : Below w.heap.size w w5 := hBw4.trans (hb5.mono (by omega)); have mh5 := others_heap hk5 mh4 (by omega) (by decide); have k50 : w5.cell? ⟨wr.heap.size, 0, none⟩ = some (.string ax.name) := by {simp [World.cell?, mh5]}; have k51 : w5.cell? ⟨wr.heap.size, 1, none⟩ = some (.string ax.value) := by {simp [World.cell?, mh5]}))
      have HI5 : Hid (Lib.IsBuilderF 99 5 (w.heap.size + 1) (w.heap.size + 1) (Lib.byteCells (acc ++ piece ax)) w5) := hid (by
        have h : Lib.IsBuilderF 99 5 (w.heap.size + 1) (w.heap.size + 1) (Lib.byteCells acc ++ Lib.strCells (ByteArray.mk #[32] ++ ax.name ++ ByteArray.mk #[61, 34] ++ ByteArray.mk (escAll ax.value.data.toList).toArray ++ ByteArray.mk #[34])) w5 := .inr hI5
        rw [cells_app, HPC.out] at h
        exact h)
      clear hI5 hk5 hb5 ad1 ad2 ad3 ad4 hfl
      go_wp2
      exact ⟨⟨j + 1, acc ++ piece ax, by simp, by omega, by rw [List.length_append]; omega, HC2, HI5, hBw5⟩, by simp [intOf]; omega⟩
    · have HAll : Hid (acc = 60 :: x.tag.data.toList ++ pieces x.attrs) := hid (by rw [HC.out, List.take_of_length_le (by omega)])
      have hI := HI.out
      have z47 : (ByteArray.mk #[47]).size = 1 := rfl
      have z62 : (ByteArray.mk #[62]).size = 1 := rfl
      cases cl
      · have HV : Hid (markB x false = acc ++ [62]) := hid (by unfold markB; rw [if_neg (by decide), HAll.out])
        go_wp2_with fail
        refine (Bld.writeString (w.heap.size + 1) (w.heap.size + 1) (Lib.byteCells acc) (ByteArray.mk #[62]) _ hI (by rw [Lib.byteCells_length]; omega) (by omega)).mono ?_
        rintro e w5 ⟨rfl, hI5, hb5, hk5⟩
        have hI5' : Lib.IsBuilderF 99 5 (w.heap.size + 1) (w.heap.size + 1) (Lib.byteCells (acc ++ [62])) w5 := by
          have h : Lib.IsBuilderF 99 5 (w.heap.size + 1) (w.heap.size + 1) (Lib.byteCells acc ++ Lib.strCells (ByteArray.mk #[62])) w5 := .inr hI5
          rw [cells_app] at h
          exact h
        have hz5 := Esc.blt hI5'
        have B5 := hbel.trans (hb5.mono (by omega))
        go_wp2_with fail
        refine (Tryz.Builder_String_any_k (w.heap.size + 1) (w.heap.size + 1) (acc ++ [62]) _ hI5' (by omega)).mono ?_
        rintro e w6 ⟨rfl, hI6, hb6, hk6⟩
        go_wp2
        go_ret
        exact ⟨by rw [HV.out]; rfl, B5.trans (hb6.mono (by omega))⟩
      · have HV : Hid (markB x true = acc ++ [47, 62]) := hid (by unfold markB; rw [if_pos rfl, HAll.out])
        go_wp2_with fail
        refine (Bld.writeString (w.heap.size + 1) (w.heap.size + 1) (Lib.byteCells acc) (ByteArray.mk #[47]) _ hI (by rw [Lib.byteCells_length]; omega) (by omega)).mono ?_
        rintro e w4 ⟨rfl, hI4, hb4, hk4⟩
        have hI4' : Lib.IsBuilderF 99 5 (w.heap.size + 1) (w.heap.size + 1) (Lib.byteCells (acc ++ [47])) w4 := by
          have h : Lib.IsBuilderF 99 5 (w.heap.size + 1) (w.heap.size + 1) (Lib.byteCells acc ++ Lib.strCells (ByteArray.mk #[47])) w4 := .inr hI4
          rw [cells_app] at h
          exact h
        have hz4 := Esc.blt hI4'
        have B4 := hbel.trans (hb4.mono (by omega))
        go_wp2_with fail
        refine (Bld.writeString (w.heap.size + 1) (w.heap.size + 1) (Lib.byteCells (acc ++ [47])) (ByteArray.mk #[62]) _ hI4' (by rw [Lib.byteCells_length, List.length_append]; simp only [List.length_cons, List.length_nil]; omega) (by omega)).mono ?_
        rintro e w5 ⟨rfl, hI5, hb5, hk5⟩
        have hI5' : Lib.IsBuilderF 99 5 (w.heap.size + 1) (w.heap.size + 1) (Lib.byteCells (acc ++ [47] ++ [62])) w5 := by
          have h : Lib.IsBuilderF 99 5 (w.heap.size + 1) (w.heap.size + 1) (Lib.byteCells (acc ++ [47]) ++ Lib.strCells (ByteArray.mk #[62])) w5 := .inr hI5
          rw [cells_app] at h
          exact h
        have hz5 := Esc.blt hI5'
        have B5 := B4.trans (hb5.mono (by omega))
        go_wp2_with fail
        refine (Tryz.Builder_String_any_k (w.heap.size + 1) (w.heap.size + 1) (acc ++ [47] ++ [62]) _ hI5' (by omega)).mono ?_
        rintro e w6 ⟨rfl, hI6, hb6, hk6⟩
        go_wp2
        go_ret
        exact ⟨by rw [HV.out]; rfl, B5.trans (hb6.mono (by omega))⟩
end Tr
end Go.Proofs.YtgghigfflpbjiaaGreatDoor
