/- The law's comparisons of elements: what is the same is told to be the same. -/
import Derived.Test.YtgghigfflpbjiaaGreatDoorTrA
import Derived.Deep.QuietTactic
import Derived.BigQuiet
import Derived.Deep.RegionWith
namespace Go.Proofs.YtgghigfflpbjiaaGreatDoor
open Go.RowKit
set_option linter.unusedVariables false
namespace Tr
theorem str_ne (s : ByteArray) : (s.toList != s.toList) = false := by simp
set_option maxRecDepth 100000 in
set_option maxHeartbeats 400000 in
theorem eqAttr (a : AttrD) (w : World) :
    Calls Tryz.prog 109 #[.agg #[.string a.name, .string a.value], .agg #[.string a.name, .string a.value]] w fun e w' => e = .returned (.bool true) ∧ Below w.heap.size w w' := by
  have h1 := str_ne a.name
  have h2 := str_ne a.value
  go_enter Tryz.func109, Tryz.ntmps109
  go_wp2
  go_ret
  exact ⟨rfl, ((Below.refl _ w).alloc (Nat.le_refl _) _).alloc (by simp) _⟩
set_option maxRecDepth 100000 in
set_option maxHeartbeats 2000000 in
theorem eqAttrS (B1 B2 : Nat) (ats : List AttrD) (v1 v2 : Value) (w : World) (hl : ats.length ≤ 1048576) (h1 : AttrsAt w B1 v1 ats) (h2 : AttrsAt w B2 v2 ats) :
    Calls Tryz.prog 84 #[v1, v2] w fun e w' => e = .returned (.bool true) ∧ Below w.heap.size w w' := by
  obtain ⟨a1, c1, rfl⟩ := h1.slice
  obtain ⟨a2, c2, rfl⟩ := h2.slice
  have H1 : Hid (AttrsAt w B1 (.slice a1 ats.length c1) ats) := h1
  have H2 : Hid (AttrsAt w B2 (.slice a2 ats.length c2) ats) := h2
  clear h1 h2
  have hb : ((ats.length : Int) != (ats.length : Int)) = false := by simp
  go_enter Tryz.func84, Tryz.ntmps84
  go_wp2
  go_loopw [5] (fun i wr => ∃ k : Nat, i = .int .i64 k ∧ k ≤ ats.length ∧ Below w.heap.size w wr) (fun i _ => ats.length - (intOf i).toNat)
  case atStart => exact ⟨0, rfl, Nat.zero_le _, Below.refl _ _⟩
  case round =>
    obtain ⟨k, rfl, hk, hbel⟩ := hrel
    by_cases hlt : k < ats.length
    · obtain ⟨g1, o1, rfl, hg1, p1, q1⟩ := (H1.out.below hbel).at hlt
      obtain ⟨g2, o2, rfl, hg2, p2, q2⟩ := (H2.out.below hbel).at hlt
      have r1 : (k : Int) < (ats.length : Int) := by omega
      have HE : Hid (∀ w : World, Calls Tryz.prog 109 #[.agg #[.string ats[k].name, .string ats[k].value], .agg #[.string ats[k].name, .string ats[k].value]] w fun e w' => e = .returned (.bool true) ∧ Below w.heap.size w w') := fun w => eqAttr ats[k] w
      go_wp2
      go_region_with ((go_at_call 109; refine (HE.out _).mono ?_; rintro e w1 ⟨rfl, hb1⟩; have hbb : Below wr.heap.size wr w1 := ((Below.refl wr.heap.size wr).drew).trans hb1))
      all_goals go_wp2
      all_goals exact ⟨⟨k + 1, by simp, by omega, hbel.trans (hbb.mono hbel.size)⟩, by simp [intOf]; omega⟩
    · go_wp2
      go_ret
      exact ⟨rfl, hbel⟩
set_option maxRecDepth 100000 in
set_option maxHeartbeats 400000 in
theorem eqElem (B1 B2 : Nat) (x : ElemD) (v1 v2 : Value) (w : World) (hl : x.attrs.length ≤ 1048576) (h1 : AttrsAt w B1 v1 x.attrs) (h2 : AttrsAt w B2 v2 x.attrs) :
    Calls Tryz.prog 51 #[.agg #[.string x.tag, .int .i64 x.parent, v1], .agg #[.string x.tag, .int .i64 x.parent, v2]] w fun e w' => e = .returned (.bool true) ∧ Below w.heap.size w w' := by
  obtain ⟨a1, c1, rfl⟩ := h1.slice
  obtain ⟨a2, c2, rfl⟩ := h2.slice
  have H1 : Hid (AttrsAt w B1 (.slice a1 x.attrs.length c1) x.attrs) := h1
  have H2 : Hid (AttrsAt w B2 (.slice a2 x.attrs.length c2) x.attrs) := h2
  clear h1 h2
  have h1 := str_ne x.tag
  have h2 : (x.parent != x.parent) = false := by simp
  go_enter Tryz.func51, Tryz.ntmps51
  go_wp2_with fail
  have hB : Below w.heap.size w ((w.alloc (.cells #[.string x.tag, .int .i64 x.parent, .slice a1 x.attrs.length c1] 53)).alloc (.cells #[.string x.tag, .int .i64 x.parent, .slice a2 x.attrs.length c2] 53)) := ((Below.refl _ w).alloc (Nat.le_refl _) _).alloc (by simp) _
  refine (eqAttrS B1 B2 x.attrs _ _ _ hl (H1.out.below hB) (H2.out.below hB)).mono ?_
  rintro e w1 ⟨rfl, hb1⟩
  go_wp2
  go_ret
  exact ⟨rfl, hB.trans (hb1.mono (by simp; omega))⟩
set_option maxRecDepth 100000 in
set_option maxHeartbeats 2000000 in
theorem eqElemS (B1 B2 : Nat) (es : List ElemD) (v1 v2 : Value) (w : World) (hl : SmallE 1048576 es) (h1 : ElemsAt w B1 v1 es) (h2 : ElemsAt w B2 v2 es) :
    Calls Tryz.prog 25 #[v1, v2] w fun e w' => e = .returned (.bool true) ∧ Below w.heap.size w w' := by
  obtain ⟨a1, c1, rfl⟩ := h1.slice
  obtain ⟨a2, c2, rfl⟩ := h2.slice
  have H1 : Hid (ElemsAt w B1 (.slice a1 es.length c1) es) := h1
  have H2 : Hid (ElemsAt w B2 (.slice a2 es.length c2) es) := h2
  have HL : Hid (SmallE 1048576 es) := hl
  have hlen := hl.1
  clear h1 h2 hl
  have hb : ((es.length : Int) != (es.length : Int)) = false := by simp
  go_enter Tryz.func25, Tryz.ntmps25
  go_wp2
  go_loopw [5] (fun i wr => ∃ k : Nat, i = .int .i64 k ∧ k ≤ es.length ∧ Below w.heap.size w wr) (fun i _ => es.length - (intOf i).toNat)
  case atStart => exact ⟨0, rfl, Nat.zero_le _, Below.refl _ _⟩
  case round =>
    obtain ⟨k, rfl, hk, hbel⟩ := hrel
    by_cases hlt : k < es.length
    · obtain ⟨g1, o1, va, rfl, hg1, p1, q1, r1, hva⟩ := (H1.out.below hbel).at hlt
      obtain ⟨g2, o2, vb, rfl, hg2, p2, q2, r2, hvb⟩ := (H2.out.below hbel).at hlt
      have hsm : es[k].attrs.length ≤ 1048576 := by have := (HL.out.2 es[k] (List.getElem_mem hlt)).2.1; omega
      have HE : Hid (∀ w1 : World, Below wr.heap.size wr w1 → Calls Tryz.prog 51 #[.agg #[.string es[k].tag, .int .i64 es[k].parent, va], .agg #[.string es[k].tag, .int .i64 es[k].parent, vb]] w1 fun e w' => e = .returned (.bool true) ∧ Below w1.heap.size w1 w') := fun w1 h => eqElem B1 B2 es[k] va vb w1 hsm (hva.below h) (hvb.below h)
      obtain ⟨a3, c3, rfl⟩ := hva.slice
      obtain ⟨a4, c4, rfl⟩ := hvb.slice
      clear hva hvb
      have t1 : (k : Int) < (es.length : Int) := by omega
      go_wp2
      go_region_with ((go_at_call 51; refine (HE.out _ ?_).mono ?_; exact (Below.refl wr.heap.size wr).drew; rintro e w1 ⟨rfl, hb1⟩; have hbb : Below wr.heap.size wr w1 := ((Below.refl wr.heap.size wr).drew).trans hb1))
      all_goals go_wp2
      all_goals exact ⟨⟨k + 1, by simp, by omega, hbel.trans (hbb.mono hbel.size)⟩, by simp [intOf]; omega⟩
    · go_wp2
      go_ret
      exact ⟨rfl, hbel⟩
end Tr
end Go.Proofs.YtgghigfflpbjiaaGreatDoor
