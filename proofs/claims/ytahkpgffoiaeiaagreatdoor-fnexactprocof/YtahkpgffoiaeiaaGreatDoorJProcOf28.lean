/- Laid together: TrD, TrO, MarkE. -/
import Derived.Test.YtahkpgffoiaeiaaGreatDoorJProcOf14
import Derived.Deep.QuietTactic
import Derived.BigQuiet
import Derived.Deep.RegionWith
import Derived.ProofKit
import Derived.OpenShut
import Derived.Deep.Slices
import Derived.Deep.SlicePairs
import Derived.Test.YtahkpgffoiaeiaaGreatDoorJProcOf27
import Derived.Lib.SlBytesConst
import Derived.Laws.OwnMore
/- The law's comparisons of elements: what is the same is told to be the same. -/
namespace Go.Proofs.YtahkpgffoiaeiaaGreatDoor
open Go.RowKit
set_option linter.unusedVariables false
namespace Tr
theorem str_ne (s : ByteArray) : (s.toList != s.toList) = false := by simp
set_option maxRecDepth 100000 in
set_option maxHeartbeats 400000 in
theorem eqAttr (a : AttrD) (w : World) :
    Calls Tryz.prog 75 #[.agg #[.string a.name, .string a.value], .agg #[.string a.name, .string a.value]] w fun e w' => e = .returned (.bool true) ∧ Below w.heap.size w w' := by
  have h1 := str_ne a.name
  have h2 := str_ne a.value
  go_enter Tryz.func75, Tryz.ntmps75
  go_wp2
  go_ret
  exact ⟨rfl, ((Below.refl _ w).alloc (Nat.le_refl _) _).alloc (by simp) _⟩
set_option maxRecDepth 100000 in
set_option maxHeartbeats 2000000 in
theorem eqAttrS (B1 B2 : Nat) (ats : List AttrD) (v1 v2 : Value) (w : World) (hl : ats.length ≤ 1048576) (h1 : AttrsAt w B1 v1 ats) (h2 : AttrsAt w B2 v2 ats) :
    Calls Tryz.prog 47 #[v1, v2] w fun e w' => e = .returned (.bool true) ∧ Below w.heap.size w w' := by
  obtain ⟨a1, c1, rfl⟩ := h1.slice
  obtain ⟨a2, c2, rfl⟩ := h2.slice
  have H1 : Hid (AttrsAt w B1 (.slice a1 ats.length c1) ats) := h1
  have H2 : Hid (AttrsAt w B2 (.slice a2 ats.length c2) ats) := h2
  clear h1 h2
  have hb : ((ats.length : Int) != (ats.length : Int)) = false := by simp
  go_enter Tryz.func47, Tryz.ntmps47
  go_wp2
  go_loopw [5] (fun i wr => ∃ k : Nat, i = .int .i64 k ∧ k ≤ ats.length ∧ Below w.heap.size w wr) (fun i _ => ats.length - (intOf i).toNat)
  case atStart => exact ⟨0, rfl, Nat.zero_le _, Below.refl _ _⟩
  case round =>
    obtain ⟨k, rfl, hk, hbel⟩ := hrel
    by_cases hlt : k < ats.length
    · obtain ⟨g1, o1, rfl, hg1, p1, q1⟩ := (H1.out.below hbel).at hlt
      obtain ⟨g2, o2, rfl, hg2, p2, q2⟩ := (H2.out.below hbel).at hlt
      have r1 : (k : Int) < (ats.length : Int) := by omega
      have HE : Hid (∀ w : World, Calls Tryz.prog 75 #[.agg #[.string ats[k].name, .string ats[k].value], .agg #[.string ats[k].name, .string ats[k].value]] w fun e w' => e = .returned (.bool true) ∧ Below w.heap.size w w') := fun w => eqAttr ats[k] w
      go_wp2
      go_region_with ((go_at_call 75; refine (HE.out _).mono ?_; rintro e w1 ⟨rfl, hb1⟩; have hbb : Below wr.heap.size wr w1 := ((Below.refl wr.heap.size wr).drew).trans hb1))
      all_goals go_wp2
      all_goals exact ⟨⟨k + 1, by simp, by omega, hbel.trans (hbb.mono hbel.size)⟩, by simp [intOf]; omega⟩
    · go_wp2
      go_ret
      exact ⟨rfl, hbel⟩
set_option maxRecDepth 100000 in
set_option maxHeartbeats 400000 in
theorem eqElem (B1 B2 : Nat) (x : ElemD) (v1 v2 : Value) (w : World) (hl : x.attrs.length ≤ 1048576) (h1 : AttrsAt w B1 v1 x.attrs) (h2 : AttrsAt w B2 v2 x.attrs) :
    Calls Tryz.prog 21 #[.agg #[.string x.tag, .int .i64 x.parent, v1], .agg #[.string x.tag, .int .i64 x.parent, v2]] w fun e w' => e = .returned (.bool true) ∧ Below w.heap.size w w' := by
  obtain ⟨a1, c1, rfl⟩ := h1.slice
  obtain ⟨a2, c2, rfl⟩ := h2.slice
  have H1 : Hid (AttrsAt w B1 (.slice a1 x.attrs.length c1) x.attrs) := h1
  have H2 : Hid (AttrsAt w B2 (.slice a2 x.attrs.length c2) x.attrs) := h2
  clear h1 h2
  have h1 := str_ne x.tag
  have h2 : (x.parent != x.parent) = false := by simp
  go_enter Tryz.func21, Tryz.ntmps21
  go_wp2_with fail
  have hB : Below w.heap.size w ((w.alloc (.cells #[.string x.tag, .int .i64 x.parent, .slice a1 x.attrs.length c1] 48)).alloc (.cells #[.string x.tag, .int .i64 x.parent, .slice a2 x.attrs.length c2] 48)) := ((Below.refl _ w).alloc (Nat.le_refl _) _).alloc (by simp) _
  refine (eqAttrS B1 B2 x.attrs _ _ _ hl (H1.out.below hB) (H2.out.below hB)).mono ?_
  rintro e w1 ⟨rfl, hb1⟩
  go_wp2
  go_ret
  exact ⟨rfl, hB.trans (hb1.mono (by simp; omega))⟩
set_option maxRecDepth 100000 in
set_option maxHeartbeats 2000000 in
theorem eqElemS (B1 B2 : Nat) (es : List ElemD) (v1 v2 : Value) (w : World) (hl : SmallE 1048576 es) (h1 : ElemsAt w B1 v1 es) (h2 : ElemsAt w B2 v2 es) :
    Calls Tryz.prog 9 #[v1, v2] w fun e w' => e = .returned (.bool true) ∧ Below w.heap.size w w' := by
  obtain ⟨a1, c1, rfl⟩ := h1.slice
  obtain ⟨a2, c2, rfl⟩ := h2.slice
  have H1 : Hid (ElemsAt w B1 (.slice a1 es.length c1) es) := h1
  have H2 : Hid (ElemsAt w B2 (.slice a2 es.length c2) es) := h2
  have HL : Hid (SmallE 1048576 es) := hl
  have hlen := hl.1
  clear h1 h2 hl
  have hb : ((es.length : Int) != (es.length : Int)) = false := by simp
  go_enter Tryz.func9, Tryz.ntmps9
  go_wp2
  go_loopw [5] (fun i wr => ∃ k : Nat, i = .int .i64 k ∧ k ≤ es.length ∧ Below w.heap.size w wr) (fun i _ => es.length - (intOf i).toNat)
  case atStart => exact ⟨0, rfl, Nat.zero_le _, Below.refl _ _⟩
  case round =>
    obtain ⟨k, rfl, hk, hbel⟩ := hrel
    by_cases hlt : k < es.length
    · obtain ⟨g1, o1, va, rfl, hg1, p1, q1, r1, hva⟩ := (H1.out.below hbel).at hlt
      obtain ⟨g2, o2, vb, rfl, hg2, p2, q2, r2, hvb⟩ := (H2.out.below hbel).at hlt
      have hsm : es[k].attrs.length ≤ 1048576 := by have := (HL.out.2 es[k] (List.getElem_mem hlt)).2.1; omega
      have HE : Hid (∀ w1 : World, Below wr.heap.size wr w1 → Calls Tryz.prog 21 #[.agg #[.string es[k].tag, .int .i64 es[k].parent, va], .agg #[.string es[k].tag, .int .i64 es[k].parent, vb]] w1 fun e w' => e = .returned (.bool true) ∧ Below w1.heap.size w1 w') := fun w1 h => eqElem B1 B2 es[k] va vb w1 hsm (hva.below h) (hvb.below h)
      obtain ⟨a3, c3, rfl⟩ := hva.slice
      obtain ⟨a4, c4, rfl⟩ := hvb.slice
      clear hva hvb
      have t1 : (k : Int) < (es.length : Int) := by omega
      go_wp2
      go_region_with ((go_at_call 21; refine (HE.out _ ?_).mono ?_; exact (Below.refl wr.heap.size wr).drew; rintro e w1 ⟨rfl, hb1⟩; have hbb : Below wr.heap.size wr w1 := ((Below.refl wr.heap.size wr).drew).trans hb1))
      all_goals go_wp2
      all_goals exact ⟨⟨k + 1, by simp, by omega, hbel.trans (hbb.mono hbel.size)⟩, by simp [intOf]; omega⟩
    · go_wp2
      go_ret
      exact ⟨rfl, hbel⟩
end Tr
end Go.Proofs.YtahkpgffoiaeiaaGreatDoor
/- An argument that is a list of elements, as it lies in memory. -/
namespace Go.Proofs.YtahkpgffoiaeiaaGreatDoor
open Go.RowKit Go.Deep
set_option linter.unusedVariables false
namespace Tr
theorem cellsAttr : Tryz.prog.cellsOf 100 = 2 := by kernel_rfl
theorem cellsElem : Tryz.prog.cellsOf 38 = 3 := by kernel_rfl
theorem cellsStr : Tryz.prog.cellsOf 9 = 1 := by kernel_rfl
theorem cellsI64 : Tryz.prog.cellsOf 2 = 1 := by kernel_rfl
theorem cellsAttrs : Tryz.prog.cellsOf 36 = 1 := by kernel_rfl
section
variable {H : Type} {enc : TypeId × Value → H} {w : World} {base : Nat} {spare : Nat → Bool} {held : Bool} {fuel : Nat}
theorem add_add (a : Addr) (x y : Nat) : (a.add x).add y = a.add (x + y) := by
  unfold Addr.add
  by_cases hx : x = 0
  · simp [hx]
  · by_cases hy : y = 0
    · simp [hy]
    · simp [hx, hy, Nat.add_assoc]
theorem lt_of_cell {a : Addr} {v : Value} (h : w.cell? a = some v) : a.block < w.heap.size := by
  rcases Nat.lt_or_ge a.block w.heap.size with h1 | h1
  · exact h1
  · simp [World.cell?, Array.getElem?_eq_none h1] at h
set_option maxRecDepth 100000 in
theorem open_attrs {v : Value} {x : DataW H × List MemPlace} (h : DataW.trod enc Tryz.prog w base spare held fuel 36 [v] = some x) :
    ∃ ats, AttrsAt w 0 v ats ∧ OkA ats ∧ ats.length ≤ maxLen := by
  rcases open_slice_pairs Tryz.underlying36 Tryz.underlying100 cellsAttr rfl rfl cellsStr cellsStr h with ⟨hcs, _⟩ | ⟨a, len, cap, m, n, V0, V1, D0, D1, P0, P1, hcs, hb, hl, hcm, hm, _, hx⟩
  · obtain rfl : v = .slice none 0 0 := by simpa using hcs
    exact ⟨[], ⟨none, 0, rfl, Nat.le_refl _, Nat.zero_le _, .inl rfl⟩, fun _ h => by (cases h), Nat.zero_le _⟩
  · obtain rfl : v = .slice (some a) len cap := by simpa using hcs
    have hlm : len ≤ m := by rw [hm]; split <;> omega
    have each : ∀ i, i < len → ∃ q : AttrD, w.cell? (a.add (i * 2)) = some (.string q.name) ∧ w.cell? (a.add (i * 2 + 1)) = some (.string q.value) ∧ q.name.size ≤ maxLen ∧ q.value.size ≤ maxLen := fun i hi => by
      obtain ⟨c0, c1, d0, d1⟩ := hx i (by omega)
      obtain ⟨s0, e0, _, b0⟩ := DataW.trod_string Tryz.underlying9 d0
      obtain ⟨s1, e1, _, b1⟩ := DataW.trod_string Tryz.underlying9 d1
      simp only [List.cons.injEq, and_true] at e0 e1
      exact ⟨⟨s0, s1⟩, by rw [c0, e0], by rw [c1, e1], b0, b1⟩
    haveI : Inhabited AttrD := ⟨⟨ByteArray.empty, ByteArray.empty⟩⟩
    obtain ⟨F, hF⟩ := choose_lt each
    refine ⟨(List.range len).map F, ?_, ?_, by simp; omega⟩
    · refine ⟨some a, cap, by simp, by simpa using hl, hcm, ?_⟩
      rcases Nat.eq_zero_or_pos len with h0 | h0
      · exact .inl (by simp [h0])
      · right
        obtain ⟨b, off, spot⟩ := a
        have hspot : spot = none := by simpa [Addr.add] using World.cell?_spot (hF 0 h0).1
        subst hspot
        refine ⟨b, off, rfl, Nat.zero_le _, lt_of_cell (hF 0 h0).1, fun i hi => ?_⟩
        have hi' : i < len := by simpa using hi
        have h2 := hF i hi'
        simp only [List.getElem_map, List.getElem_range]
        rw [Nat.add_assoc, ← Go.WideShapes.add_plain, ← Go.WideShapes.add_plain]
        exact ⟨h2.1, h2.2.1⟩
    · intro q hq
      obtain ⟨i, hi, rfl⟩ := List.mem_map.1 hq
      have h2 := hF i (by simpa using hi)
      exact ⟨h2.2.2.1, h2.2.2.2⟩
set_option maxRecDepth 100000 in
theorem open_elem {cs : List Value} {x : DataW H × List MemPlace} (h : DataW.trod enc Tryz.prog w base spare held fuel 38 cs = some x) :
    ∃ (e : ElemD) (va : Value), cs = [.string e.tag, .int .i64 e.parent, va] ∧ e.tag.size ≤ maxLen ∧ AttrsAt w 0 va e.attrs ∧ OkA e.attrs ∧ e.attrs.length ≤ maxLen := by
  obtain ⟨xs, n, rfl, _, hlen, hxl, hf⟩ := DataW.trod_struct Tryz.underlying38 h
  have h0 := hf 0 _ rfl
  have h1 := hf 1 _ rfl
  have h2 := hf 2 _ rfl
  rw [cellsElem] at hlen
  match cs, hlen with
  | [a, b, c], _ =>
    match xs, hxl with
    | [x0, x1, x2], _ =>
      simp [cellsStr, cellsI64, cellsAttrs] at h0 h1 h2
      obtain ⟨s0, e0, _, b0⟩ := DataW.trod_string Tryz.underlying9 h0
      obtain ⟨n1, e1, _, _⟩ := DataW.trod_int Tryz.underlying2 h1
      obtain ⟨ats, ha, hk, hl⟩ := open_attrs h2
      simp at e0 e1
      subst e0 e1
      exact ⟨⟨s0, n1, ats⟩, c, rfl, b0, ha, hk, hl⟩
set_option maxRecDepth 100000 in
theorem open_elems {v : Value} {x : DataW H × List MemPlace} (h : DataW.trod enc Tryz.prog w base spare held fuel 22 [v] = some x) :
    ∃ es, ElemsAt w 0 v es ∧ OkE es ∧ es.length ≤ maxLen := by
  rcases open_slice Tryz.underlying22 h with ⟨hcs, _⟩ | ⟨a, len, cap, m, n, D, Pl, hcs, hb, hl, hcm, hm, _, hx⟩
  · obtain rfl : v = .slice none 0 0 := by simpa using hcs
    exact ⟨[], ⟨none, 0, rfl, Nat.le_refl _, Nat.zero_le _, .inl rfl⟩, fun _ h => by (cases h), Nat.zero_le _⟩
  · obtain rfl : v = .slice (some a) len cap := by simpa using hcs
    have hlm : len ≤ m := by rw [hm]; split <;> omega
    rw [cellsElem] at hx
    have each : ∀ i, i < len → ∃ q : ElemD, w.cell? (a.add (i * 3)) = some (.string q.tag) ∧ w.cell? (a.add (i * 3 + 1)) = some (.int .i64 q.parent) ∧ (∃ va, w.cell? (a.add (i * 3 + 2)) = some va ∧ AttrsAt w 0 va q.attrs) ∧ q.tag.size ≤ maxLen ∧ OkA q.attrs ∧ q.attrs.length ≤ maxLen := fun i hi => by
      obtain ⟨cs', c0, d0⟩ := hx i (by omega)
      obtain ⟨e, va, rfl, g1, g2, g3, g4⟩ := open_elem d0
      obtain ⟨_, _, hc⟩ := World.cells?_some c0
      have k0 := hc 0 (by omega)
      have k1 := hc 1 (by omega)
      have k2 := hc 2 (by omega)
      rw [add_add] at k0 k1 k2
      exact ⟨e, k0, k1, ⟨va, k2, g2⟩, g1, g3, g4⟩
    haveI : Inhabited ElemD := ⟨⟨ByteArray.empty, 0, []⟩⟩
    obtain ⟨F, hF⟩ := choose_lt each
    refine ⟨(List.range len).map F, ?_, ?_, by simp; omega⟩
    · refine ⟨some a, cap, by simp, by simpa using hl, hcm, ?_⟩
      rcases Nat.eq_zero_or_pos len with h0 | h0
      · exact .inl (by simp [h0])
      · right
        obtain ⟨b, off, spot⟩ := a
        have hspot : spot = none := by simpa [Addr.add] using World.cell?_spot (hF 0 h0).1
        subst hspot
        refine ⟨b, off, rfl, Nat.zero_le _, lt_of_cell (hF 0 h0).1, fun i hi => ?_⟩
        have hi' : i < len := by simpa using hi
        have h2 := hF i hi'
        simp only [List.getElem_map, List.getElem_range]
        rw [Nat.add_assoc, Nat.add_assoc, ← Go.WideShapes.add_plain, ← Go.WideShapes.add_plain, ← Go.WideShapes.add_plain]
        exact ⟨h2.1, h2.2.1, h2.2.2.1⟩
    · intro q hq
      obtain ⟨i, hi, rfl⟩ := List.mem_map.1 hq
      have h2 := hF i (by simpa using hi)
      exact h2.2.2.2
end
end Tr
end Go.Proofs.YtahkpgffoiaeiaaGreatDoor
/- The law's marks in a row of elements: they are written into that row and its attrs alone. -/
namespace Go.Proofs.YtahkpgffoiaeiaaGreatDoor
open Go.RowKit
set_option linter.unusedVariables false
namespace Tr
def dg (k : Nat) : UInt8 := (48 + k % 10).toUInt8
theorem dg_nat (j : Nat) : ((dg j).toNat : Int) = 48 + (j : Int) % 10 := by
  unfold dg
  have h : (48 + j % 10) < 256 := by omega
  rw [Nat.toUInt8, UInt8.toNat_ofNat', Nat.mod_eq_of_lt h]
  push_cast
  rfl
theorem conv1 (j : Nat) (w : World) : Sem.run Tryz.prog (convert 97 9 (.slice (some ⟨w.heap.size, 0, none⟩) 1 1)) (w.alloc (.cells #[.int .u8 (48 + (j : Int) % 10)] 5)) = .ok (.string ⟨[dg j].toArray⟩) (w.alloc (.cells #[.int .u8 (48 + (j : Int) % 10)] 5)) := by
  refine run_convert_bytes_back (P := Tryz.prog) _ 97 9 5 ⟨w.heap.size, 0, none⟩ 1 [dg j] Tryz.underlying97 Tryz.underlying5 Tryz.underlying9 ?_
  intro i hi
  obtain rfl : i = 0 := by simpa using hi
  simp [Addr.add, dg_nat]
theorem app_one (c : UInt8) (l : List UInt8) : Value.string (ByteArray.mk [c].toArray ++ ByteArray.mk l.toArray) = .string ⟨(c :: l).toArray⟩ := by
  apply congrArg Value.string; apply ByteArray.ext; simp
set_option maxRecDepth 100000 in
set_option maxHeartbeats 2000000 in
theorem markText (k : Nat) (w : World) (h0 : 0 < k) (hk : k ≤ 8796093022208) : Calls Tryz.prog 22 #[.int .i64 k] w fun e w' => (∃ s, e = .returned (.string s)) ∧ Below w.heap.size w w' := by
  have q0 : (0 : Int) < (k : Int) := by omega
  have q00 : k ≠ 0 := by omega
  go_enter Tryz.func22, Tryz.ntmps22
  go_wp2
  go_loopw [0, 3] (fun i o wr => ∃ (j : Nat) (l : List UInt8), i = .int .i64 j ∧ o = .string ⟨l.toArray⟩ ∧ l.length + j ≤ k ∧ Below w.heap.size w wr) (fun i _ _ => (intOf i).toNat)
  case atStart => exact ⟨k, [], rfl, rfl, by simp, Below.refl _ _⟩
  case round =>
    obtain ⟨j, l, rfl, rfl, hl, hbel⟩ := hrel
    by_cases hj : 0 < j
    · have q1 : (0 : Int) < (j : Int) := by omega
      go_wp2
      rw [conv1]
      simp only [Result.andThen]
      rw [Oper.upon_value]
      go_wp2
      exact ⟨⟨j / 10, dg j :: l, by simp, app_one _ _, by simp only [List.length_cons]; omega, hbel.alloc hbel.size _⟩, by simp [intOf]; omega⟩
    · have q1 : ¬ (0 : Int) < (j : Int) := by omega
      go_wp2
      go_ret
      exact ⟨⟨_, rfl⟩, hbel⟩
theorem markText' (k : Int) (w : World) (h0 : 0 < k) (hk : k ≤ 8796093022208) : Calls Tryz.prog 22 #[.int .i64 k] w fun e w' => (∃ s, e = .returned (.string s)) ∧ Below w.heap.size w w' := by
  have h := markText k.toNat w (by omega) (by omega)
  rw [show ((k.toNat : Nat) : Int) = k by omega] at h
  exact h
/-- Nothing has turned but blocks between the two. -/
structure Amid (w w' : World) (B C : Nat) : Prop where
  os : w'.os = w.os
  tape : w'.tape = w.tape
  output : w'.output = w.output
  size : w.heap.size ≤ w'.heap.size
  block : ∀ b, b < w.heap.size → b < B ∨ C ≤ b → w'.heap[b]? = w.heap[b]?
theorem Amid.refl (w : World) (B C : Nat) : Amid w w B C := ⟨rfl, rfl, rfl, Nat.le_refl _, fun _ _ _ => rfl⟩
theorem Amid.trans {w w1 w2 : World} {B C : Nat} (h : Amid w w1 B C) (h2 : Amid w1 w2 B C) : Amid w w2 B C :=
  ⟨h2.os.trans h.os, h2.tape.trans h.tape, h2.output.trans h.output, Nat.le_trans h.size h2.size, fun b hb ho => (h2.block b (Nat.lt_of_lt_of_le hb h.size) ho).trans (h.block b hb ho)⟩
theorem Amid.of_below {w w' : World} {B C : Nat} (h : Below w.heap.size w w') : Amid w w' B C := ⟨h.os, h.tape, h.output, h.size, fun b hb _ => h.block b hb⟩
theorem Amid.set (w : World) {B C g : Nat} (c : Nat) (u : Value) (h1 : B ≤ g) (h2 : g < C) : Amid w (w.setCell ⟨g, c, none⟩ u) B C :=
  ⟨rfl, rfl, rfl, by simp [World.setCell], fun b hb ho => Below.heap_setCell _ _ _ _ (by dsimp only; omega)⟩
theorem Amid.mono {w w' : World} {B B' C C' : Nat} (h : Amid w w' B C) (h1 : B' ≤ B) (h2 : C ≤ C') : Amid w w' B' C' := ⟨h.os, h.tape, h.output, h.size, fun b hb ho => h.block b hb (by omega)⟩
theorem row_size {w : World} {g : Nat} {t t' : TypeId} {n n' : Nat} {f f' : Nat → Value} (h : w.rowIs g t n f) (h' : w.rowIs g t' n' f') : n = n' := by
  rcases Nat.lt_trichotomy n n' with e | e | e
  · have h1 := h'.cell e
    have h2 : w.cell? ⟨g, n, none⟩ = none := by
      obtain ⟨c, h3, h4, _⟩ := h
      simp [World.cell?, h3, h4]
    rw [h2] at h1
    cases h1
  · exact e
  · have h1 := h.cell e
    have h2 : w.cell? ⟨g, n', none⟩ = none := by
      obtain ⟨c, h3, h4, _⟩ := h'
      simp [World.cell?, h3, h4]
    rw [h2] at h1
    cases h1
set_option maxRecDepth 100000 in
set_option maxHeartbeats 2000000 in
theorem markAttrS (g : Nat) (m : Nat) (f : Nat → Value) (k : Int) (w : World) (hm : m ≤ 1048576) (h0 : 0 < k) (hk : k ≤ 4398046511104) (hr : w.rowIs g 73 (m * 2) f) :
    Calls Tryz.prog 23 #[.slice (some ⟨g, 0, none⟩) m m, .int .i64 k] w fun e w' => (∃ r : Int, e = .returned (.int .i64 r) ∧ k ≤ r ∧ r ≤ k + 2 * (m : Int)) ∧ (∃ f', w'.rowIs g 73 (m * 2) f') ∧ Amid w w' g (g + 1) := by
  have HR := hid hr
  clear hr
  go_enter Tryz.func23, Tryz.ntmps23
  go_wp2
  go_loopw [1, 5] (fun q i wr => ∃ (j : Nat) (f' : Nat → Value), i = .int .i64 j ∧ q = .int .i64 (k + 2 * (j : Int)) ∧ j ≤ m ∧ Hid (wr.rowIs g 73 (m * 2) f') ∧ Amid w wr g (g + 1)) (fun _ i _ => m - (intOf i).toNat)
  case atStart => exact ⟨0, f, rfl, by simp, Nat.zero_le _, HR, Amid.refl _ _ _⟩
  case round =>
    obtain ⟨j, f', rfl, rfl, hj, HW, ham⟩ := hrel
    by_cases hlt : j < m
    · have q1 : (j : Int) < (m : Int) := by omega
      go_wp2_with fail
      refine (markText' _ _ (by omega) (by omega)).mono ?_
      rintro e w1 ⟨⟨s1, rfl⟩, hb1⟩
      have hr1 : w1.rowIs g 73 (m * 2) f' := HW.out.of_block (hb1.block _ HW.out.lt)
      have c0 := hr1.cell (i := j * 2) (by omega)
      have z0 := hr1.frozen (j * 2)
      have HR2 := hid (hr1.set (j * 2) (.string s1))
      clear hr1
      go_wp2_with fail
      refine (markText' _ _ (by omega) (by omega)).mono ?_
      rintro e w2 ⟨⟨s2, rfl⟩, hb2⟩
      have hr2 : w2.rowIs g 73 (m * 2) (fun i => if i = j * 2 then .string s1 else f' i) := HR2.out.of_block (hb2.block _ HR2.out.lt)
      have c1 := hr2.cell (i := j * 2 + 1) (by omega)
      have z1 := hr2.frozen (j * 2 + 1)
      have HR3 := hid (hr2.set (j * 2 + 1) (.string s2))
      have hA : Amid w (w2.setCell ⟨g, j * 2 + 1, none⟩ (.string s2)) g (g + 1) := (((ham.trans (Amid.of_below hb1)).trans (Amid.set w1 (j * 2) (.string s1) (Nat.le_refl _) (Nat.lt_succ_self _))).trans (Amid.of_below hb2)).trans (Amid.set w2 (j * 2 + 1) (.string s2) (Nat.le_refl _) (Nat.lt_succ_self _))
      clear hr2
      go_wp2
      exact ⟨⟨j + 1, _, by simp, by simp; omega, by omega, HR3, hA⟩, by simp [intOf]; omega⟩
    · obtain rfl : j = m := by omega
      go_wp2
      go_ret
      exact ⟨⟨_, rfl, by omega, by omega⟩, ⟨f', HW.out⟩, ham⟩
set_option maxRecDepth 100000 in
set_option maxHeartbeats 4000000 in
theorem markElemS (B C : Nat) (v : Value) (n : Nat) (m : Nat → Nat) (w : World) (hn : n ≤ 1048576) (hm : ∀ j, j < n → m j ≤ 1048576) (h : ElemsOwn w B C v n m) :
    Calls Tryz.prog 10 #[v, .int .i64 1] w fun e w' => (∃ r : Int, e = .returned (.int .i64 r) ∧ 1 ≤ r) ∧ Amid w w' B C := by
  obtain ⟨g, f, rfl, hB, hC, hr, ho⟩ := h
  have HR := hid hr
  have HO := hid ho
  have HM := hid hm
  clear hr ho hm
  go_enter Tryz.func10, Tryz.ntmps10
  go_wp2
  go_loopw [1, 5] (fun q i wr => ∃ (j : Nat) (k : Int) (f' : Nat → Value), i = .int .i64 j ∧ q = .int .i64 k ∧ 1 ≤ k ∧ k ≤ 1 + 2097154 * (j : Int) ∧ j ≤ n ∧ Hid (wr.rowIs g 48 (n * 3) f') ∧ Hid (∀ i, i < n → AttrsOwn wr (g + 1) C (f' (i * 3 + 2)) (m i)) ∧ Amid w wr B C) (fun _ i _ => n - (intOf i).toNat)
  case atStart => exact ⟨0, 1, f, rfl, rfl, by omega, by omega, Nat.zero_le _, HR, HO, Amid.refl _ _ _⟩
  case round =>
    obtain ⟨j, k, f', rfl, rfl, hk1, hk2, hj, HW, HV, ham⟩ := hrel
    by_cases hlt : j < n
    · have q1 : (j : Int) < (n : Int) := by omega
      have hmj := HM.out j hlt
      go_wp2_with fail
      refine (markText' _ _ (by omega) (by omega)).mono ?_
      rintro e w1 ⟨⟨s1, rfl⟩, hb1⟩
      have hr1 : w1.rowIs g 48 (n * 3) f' := HW.out.of_block (hb1.block _ HW.out.lt)
      have c0 := hr1.cell (i := j * 3) (by omega)
      have c1 := hr1.cell (i := j * 3 + 1) (by omega)
      have c2 := hr1.cell (i := j * 3 + 2) (by omega)
      have z0 := hr1.frozen (j * 3)
      have z1 := hr1.frozen (j * 3 + 1)
      have hgl := hr1.lt
      have hvj := (HV.out j hlt).below hb1
      obtain ⟨ga, fa, hva, hga1, hga2, hra⟩ := hvj
      rw [hva] at c2
      have HR3 := hid ((hr1.set (j * 3) (.string s1)).set (j * 3 + 1) (.int .i64 (k + 1)))
      have HV3 : Hid (∀ i, i < n → AttrsOwn ((w1.setCell ⟨g, j * 3, none⟩ (.string s1)).setCell ⟨g, j * 3 + 1, none⟩ (.int .i64 (k + 1))) (g + 1) C (f' (i * 3 + 2)) (m i)) := hid (fun i hi => (((HV.out i hi).below hb1).setBelow (by omega) _).setBelow (by omega) _)
      have HVJ : Hid (((w1.setCell ⟨g, j * 3, none⟩ (.string s1)).setCell ⟨g, j * 3 + 1, none⟩ (.int .i64 (k + 1))).rowIs ga 73 (m j * 2) fa) := hid ((hra.setOther (by dsimp only; omega) _).setOther (by dsimp only; omega) _)
      have hA3 : Amid w ((w1.setCell ⟨g, j * 3, none⟩ (.string s1)).setCell ⟨g, j * 3 + 1, none⟩ (.int .i64 (k + 1))) B C := ((ham.trans (Amid.of_below hb1)).trans (Amid.set w1 (j * 3) (.string s1) hB hC)).trans (Amid.set _ (j * 3 + 1) (.int .i64 (k + 1)) hB hC)
      clear hr1 hva hra
      go_wp2_with fail
      refine (markAttrS ga (m j) fa (k + 1 + 1) _ hmj (by omega) (by omega) HVJ.out).mono ?_
      rintro e w4 ⟨⟨r, rfl, hr1, hr2⟩, ⟨fb, hrb⟩, hA4⟩
      have HR4 : Hid (w4.rowIs g 48 (n * 3) (fun i => if i = j * 3 + 1 then .int .i64 (k + 1) else if i = j * 3 then .string s1 else f' i)) := hid (HR3.out.of_block (hA4.block g HR3.out.lt (.inl (by omega))))
      have HV4 : Hid (∀ i, i < n → AttrsOwn w4 (g + 1) C ((fun i => if i = j * 3 + 1 then Value.int .i64 (k + 1) else if i = j * 3 then .string s1 else f' i) (i * 3 + 2)) (m i)) := hid (fun i hi => by
        have e1 : ¬ i * 3 + 2 = j * 3 + 1 := by omega
        have e2 : ¬ i * 3 + 2 = j * 3 := by omega
        simp only [e1, e2, if_false]
        obtain ⟨gi, fi, hvi, hi1, hi2, hri⟩ := HV3.out i hi
        by_cases e3 : gi = ga
        · subst e3
          have hs := row_size hri HVJ.out
          exact ⟨gi, fb, hvi, hi1, hi2, by rw [hs]; exact hrb⟩
        · exact ⟨gi, fi, hvi, hi1, hi2, hri.of_block (hA4.block gi hri.lt (by omega))⟩)
      have hA5 : Amid w w4 B C := hA3.trans (hA4.mono (by omega) (by omega))
      clear hrb hA4
      go_wp2
      exact ⟨⟨j + 1, r, _, by simp, rfl, by omega, by push_cast; omega, by omega, HR4, HV4, hA5⟩, by simp [intOf]; omega⟩
    · obtain rfl : j = n := by omega
      go_wp2
      go_ret
      exact ⟨⟨_, rfl, hk1⟩, ham⟩
end Tr
end Go.Proofs.YtahkpgffoiaeiaaGreatDoor
