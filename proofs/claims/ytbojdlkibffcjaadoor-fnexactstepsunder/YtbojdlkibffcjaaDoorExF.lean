/- The specification's TypeOf. -/
import Derived.Test.YtbojdlkibffcjaaDoorExE
namespace Go.Proofs.YtbojdlkibffcjaaDoor
open Go.RowKit
set_option linter.unusedVariables false
namespace Ex
open Nd (NodeD)
theorem kept_cell {B : Nat} {W w : World} (h : Below B W w) {b o : Nat} (hb : b < B) {v : Value} (hc : W.cell? ⟨b, o, none⟩ = some v) : w.cell? ⟨b, o, none⟩ = some v := (h.cell (p := ⟨b, o, none⟩) hb).trans hc
theorem kept_free {B : Nat} {W w : World} (h : Below B W w) {b o : Nat} (hb : b < B) (hc : W.frozen? ⟨b, o, none⟩ = false) : w.frozen? ⟨b, o, none⟩ = false := (h.frozen (p := ⟨b, o, none⟩) hb).trans hc
theorem setB {B : Nat} {W w : World} (h : Below B W w) {b o : Nat} (hb : B ≤ b) (x : Value) : Below B W (w.setCell ⟨b, o, none⟩ x) := h.setCell hb x
theorem ret_two {c d x y : Int} (h : c = d) (h2 : x = y) : Ending.returned (.agg #[.int .i64 c, .int .i64 x]) = .returned (.agg #[.int .i64 d, .int .i64 y]) := by rw [h, h2]
set_option maxRecDepth 100000 in
set_option maxHeartbeats 2000000 in
theorem specType (B : Nat) (ns : List NodeD) (v : Value) (w : World) (hl : ns.length ≤ 1048576) (ha : Nd.At w B v ns) :
    Calls Tryd.prog 47 #[v] w fun e w' => e = .returned (.tuple #[.int .i64 (typeVal ns), .int .i64 (typeCode ns)]) ∧ Below w.heap.size w w' := by
  have HF := hid (specFault1 B ns v w hl ha)
  obtain ⟨a, cap, rfl⟩ := ha.slice
  have HA := hid ha
  clear ha
  go_enter Tryd.func47, Tryd.ntmps47
  go_wp2_with fail
  refine HF.out.mono ?_
  rintro e w1 ⟨rfl, hb1⟩
  by_cases hf : eFault ns = 0
  · have b1 : (eFault ns != 0) = false := by simp [hf]
    obtain ⟨h0, h16, hok⟩ := of_e hf
    have HFZ := hid hf
    have HT := hid (specTypes B ns _ w1 h16 hok (HA.out.below hb1))
    clear hf hok
    go_wp2_with fail
    refine HT.out.mono ?_
    rintro e w2 ⟨⟨u, rfl, ho⟩, hb2⟩
    have B2 := hb1.trans (hb2.mono hb1.size)
    cases hto : tOk ns
    · have HV := hid (ty_bad HFZ.out hto)
      clear hto ho
      go_wp2
      go_ret2
      exact ⟨by rw [HV.out.1, HV.out.2]; rfl, B2⟩
    · have HV := hid (ty_ok HFZ.out hto)
      have ho2 := ho hto
      clear hto ho
      obtain ⟨a1, d1, rfl⟩ := owns_slice ho2
      obtain ⟨g5, rfl, hg5⟩ := owns_some ho2 h0
      have m0 := ty_cell ho2 (j := ns.length - 1) (by omega)
      have hcast : (ns.length : Int) - 1 = ((ns.length - 1 : Nat) : Int) := by omega
      have q1 : ((ns.length - 1 : Nat) : Int) < (ns.length : Int) := by omega
      clear ho2
      go_wp2
      go_ret2
      exact ⟨by rw [HV.out.1, HV.out.2]; rfl, B2⟩
  · have HV := hid (ty_fault hf)
    have b1 : (eFault ns != 0) = true := by simpa using hf
    clear hf
    go_wp2
    go_ret2
    exact ⟨by rw [HV.out.1, HV.out.2]; rfl, hb1⟩
end Ex
end Go.Proofs.YtbojdlkibffcjaaDoor
