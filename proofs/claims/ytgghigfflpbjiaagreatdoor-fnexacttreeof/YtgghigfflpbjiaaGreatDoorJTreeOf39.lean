/- The specification's TreeOf: names and values of attrs. -/
import Derived.Test.YtgghigfflpbjiaaGreatDoorJTreeOf38
import Derived.Test.YtgghigfflpbjiaaGreatDoorJTreeOf20
namespace Go.Proofs.YtgghigfflpbjiaaGreatDoor
open Go.RowKit
set_option linter.unusedVariables false
namespace Tf
open Ex (hid inR eFault str str_size textOf specDigits)
open Nd (NodeD)
open St (StepD)
open Tr (AttrD ElemD AttrsAt ElemsAt fault)
open Pf
open Nst (own)
open Go.Lib (decDigits)
set_option maxRecDepth 100000 in
set_option maxHeartbeats 2000000 in
theorem specNames (s : StepD) (w : World) (hk : inR s.kind 1 8 = true) :
    Calls Tryz.prog 38 #[.int .i64 s.kind] w fun e w' => ∃ v, e = .returned v ∧ SsAt w' w.heap.size w'.heap.size v (namesL s) ∧ Below w.heap.size w w' := by
  have HB : ∀ o, Hid (Below w.heap.size w (w.alloc o)) := fun o => hid ((Below.refl _ w).alloc (Nat.le_refl _) _)
  rcases kinds hk with k | k | k | k | k | k | k | k
  · have HN : Hid (namesL s = []) := hid (by unfold namesL; rw [kind0 (by omega)]; rfl)
    rw [k]
    clear k hk
    go_enter Tryz.func38, Tryz.ntmps38
    go_wp2
    go_ret
    exact ⟨_, rfl, by rw [HN.out]; exact ss_nil _ _ _ _ _, (HB _).out⟩
  · have HN : Hid (namesL s = [aName]) := hid (by unfold namesL; rw [kind2 k]; rfl)
    rw [k]
    clear k hk
    go_enter Tryz.func38, Tryz.ntmps38
    go_wp2
    go_ret
    exact ⟨_, rfl, by rw [HN.out]; exact ss_one _ _, (HB _).out⟩
  · have HN : Hid (namesL s = []) := hid (by unfold namesL; rw [kind0 (by omega)]; rfl)
    rw [k]
    clear k hk
    go_enter Tryz.func38, Tryz.ntmps38
    go_wp2
    go_ret
    exact ⟨_, rfl, by rw [HN.out]; exact ss_nil _ _ _ _ _, (HB _).out⟩
  · have HN : Hid (namesL s = []) := hid (by unfold namesL; rw [kind0 (by omega)]; rfl)
    rw [k]
    clear k hk
    go_enter Tryz.func38, Tryz.ntmps38
    go_wp2
    go_ret
    exact ⟨_, rfl, by rw [HN.out]; exact ss_nil _ _ _ _ _, (HB _).out⟩
  · have HN : Hid (namesL s = [aMsg]) := hid (by unfold namesL; rw [kind5 k]; rfl)
    rw [k]
    clear k hk
    go_enter Tryz.func38, Tryz.ntmps38
    go_wp2
    go_ret
    exact ⟨_, rfl, by rw [HN.out]; exact ss_one _ _, (HB _).out⟩
  · have HN : Hid (namesL s = [aTicks]) := hid (by unfold namesL; rw [kind6 (by omega)]; rfl)
    rw [k]
    clear k hk
    go_enter Tryz.func38, Tryz.ntmps38
    go_wp2
    go_ret
    exact ⟨_, rfl, by rw [HN.out]; exact ss_one _ _, (HB _).out⟩
  · have HN : Hid (namesL s = [aVar, aTo]) := hid (by unfold namesL; rw [kind7 k]; rfl)
    rw [k]
    clear k hk
    go_enter Tryz.func38, Tryz.ntmps38
    go_wp2
    go_ret
    exact ⟨_, rfl, by rw [HN.out]; exact ss_two _ _ _, (HB _).out⟩
  · have HN : Hid (namesL s = [aTicks]) := hid (by unfold namesL; rw [kind6 (by omega)]; rfl)
    rw [k]
    clear k hk
    go_enter Tryz.func38, Tryz.ntmps38
    go_wp2
    go_ret
    exact ⟨_, rfl, by rw [HN.out]; exact ss_one _ _, (HB _).out⟩
set_option maxRecDepth 100000 in
set_option maxHeartbeats 2000000 in
theorem sattrName (B : Nat) (s : StepD) (g o : Nat) (vc ve : Value) (w : World) (hs : SAt w g o s vc ve) (hc : Nd.At w B vc s.cond) (he : Nd.At w B ve s.expr) :
    Calls Tryz.prog 39 #[.pointer (some ⟨g, o, none⟩), .string aName] w fun e w' => e = .returned (.string (s.name)) ∧ Below w.heap.size w w' := by
  obtain ⟨c0, c1, c2, c3, c4, c5⟩ := hs
  obtain ⟨a1, d1, rfl⟩ := hc.slice
  obtain ⟨a2, d2, rfl⟩ := he.slice
  have q0 : ((ByteArray.mk #[110, 97, 109, 101]).toList == (ByteArray.mk #[110, 97, 109, 101]).toList) = true := lit_eq [110, 97, 109, 101]
  clear hc he
  unfold aName
  go_enter Tryz.func39, Tryz.ntmps39
  go_wp2
  go_ret
  exact ⟨rfl, Below.refl _ _⟩
set_option maxRecDepth 100000 in
set_option maxHeartbeats 2000000 in
theorem sattrTo (B : Nat) (s : StepD) (g o : Nat) (vc ve : Value) (w : World) (hf : eFault s.expr = 0) (hs : SAt w g o s vc ve) (hc : Nd.At w B vc s.cond) (he : Nd.At w B ve s.expr) :
    Calls Tryz.prog 39 #[.pointer (some ⟨g, o, none⟩), .string aTo] w fun e w' => e = .returned (.string (str (textOf s.expr))) ∧ Below w.heap.size w w' := by
  obtain ⟨c0, c1, c2, c3, c4, c5⟩ := hs
  obtain ⟨a1, d1, rfl⟩ := hc.slice
  obtain ⟨a2, d2, rfl⟩ := he.slice
  have HX := hid (specETxt B s.expr _ w hf he)
  have q0 : ((ByteArray.mk #[116, 111]).toList == (ByteArray.mk #[110, 97, 109, 101]).toList) = false := lit_ne (by decide)
  have q1 : ((ByteArray.mk #[116, 111]).toList == (ByteArray.mk #[116, 111]).toList) = true := lit_eq [116, 111]
  clear hc he
  unfold aTo
  go_enter Tryz.func39, Tryz.ntmps39
  go_wp2_with fail
  refine HX.out.mono ?_
  rintro e w1 ⟨rfl, hb1⟩
  go_wp2
  go_ret
  exact ⟨rfl, hb1⟩
set_option maxRecDepth 100000 in
set_option maxHeartbeats 2000000 in
theorem sattrMsg (B : Nat) (s : StepD) (g o : Nat) (vc ve : Value) (w : World) (h0 : 0 ≤ s.arg) (h1 : s.arg ≤ 99) (hs : SAt w g o s vc ve) (hc : Nd.At w B vc s.cond) (he : Nd.At w B ve s.expr) :
    Calls Tryz.prog 39 #[.pointer (some ⟨g, o, none⟩), .string aMsg] w fun e w' => e = .returned (.string (digs s)) ∧ Below w.heap.size w w' := by
  obtain ⟨c0, c1, c2, c3, c4, c5⟩ := hs
  obtain ⟨a1, d1, rfl⟩ := hc.slice
  obtain ⟨a2, d2, rfl⟩ := he.slice
  obtain ⟨k, hk⟩ : ∃ k : Nat, s.arg = (k : Int) := ⟨s.arg.toNat, by omega⟩
  have HX := hid (specDigits (k + 1) k w (by omega) (by omega))
  have HD : Hid (digs s = str (decDigits k)) := hid (by unfold digs; rw [hk]; rfl)
  rw [hk] at c3
  clear hk
  have q0 : ((ByteArray.mk #[109, 115, 103]).toList == (ByteArray.mk #[110, 97, 109, 101]).toList) = false := lit_ne (by decide)
  have q1 : ((ByteArray.mk #[109, 115, 103]).toList == (ByteArray.mk #[116, 111]).toList) = false := lit_ne (by decide)
  clear hc he
  unfold aMsg
  go_enter Tryz.func39, Tryz.ntmps39
  go_wp2_with fail
  refine HX.out.mono ?_
  rintro e w1 ⟨rfl, hb1⟩
  go_wp2
  go_ret
  exact ⟨by rw [HD.out]; rfl, hb1⟩
set_option maxRecDepth 100000 in
set_option maxHeartbeats 2000000 in
theorem sattrTicks (B : Nat) (s : StepD) (g o : Nat) (vc ve : Value) (w : World) (h0 : 0 ≤ s.arg) (h1 : s.arg ≤ 99) (hs : SAt w g o s vc ve) (hc : Nd.At w B vc s.cond) (he : Nd.At w B ve s.expr) :
    Calls Tryz.prog 39 #[.pointer (some ⟨g, o, none⟩), .string aTicks] w fun e w' => e = .returned (.string (digs s)) ∧ Below w.heap.size w w' := by
  obtain ⟨c0, c1, c2, c3, c4, c5⟩ := hs
  obtain ⟨a1, d1, rfl⟩ := hc.slice
  obtain ⟨a2, d2, rfl⟩ := he.slice
  obtain ⟨k, hk⟩ : ∃ k : Nat, s.arg = (k : Int) := ⟨s.arg.toNat, by omega⟩
  have HX := hid (specDigits (k + 1) k w (by omega) (by omega))
  have HD : Hid (digs s = str (decDigits k)) := hid (by unfold digs; rw [hk]; rfl)
  rw [hk] at c3
  clear hk
  have q0 : ((ByteArray.mk #[116, 105, 99, 107, 115]).toList == (ByteArray.mk #[110, 97, 109, 101]).toList) = false := lit_ne (by decide)
  have q1 : ((ByteArray.mk #[116, 105, 99, 107, 115]).toList == (ByteArray.mk #[116, 111]).toList) = false := lit_ne (by decide)
  clear hc he
  unfold aTicks
  go_enter Tryz.func39, Tryz.ntmps39
  go_wp2_with fail
  refine HX.out.mono ?_
  rintro e w1 ⟨rfl, hb1⟩
  go_wp2
  go_ret
  exact ⟨by rw [HD.out]; rfl, hb1⟩
set_option maxRecDepth 100000 in
set_option maxHeartbeats 2000000 in
theorem sattrVar (B : Nat) (s : StepD) (g o : Nat) (vc ve : Value) (w : World) (h0 : 0 ≤ s.arg) (h1 : s.arg ≤ 99) (hs : SAt w g o s vc ve) (hc : Nd.At w B vc s.cond) (he : Nd.At w B ve s.expr) :
    Calls Tryz.prog 39 #[.pointer (some ⟨g, o, none⟩), .string aVar] w fun e w' => e = .returned (.string (digs s)) ∧ Below w.heap.size w w' := by
  obtain ⟨c0, c1, c2, c3, c4, c5⟩ := hs
  obtain ⟨a1, d1, rfl⟩ := hc.slice
  obtain ⟨a2, d2, rfl⟩ := he.slice
  obtain ⟨k, hk⟩ : ∃ k : Nat, s.arg = (k : Int) := ⟨s.arg.toNat, by omega⟩
  have HX := hid (specDigits (k + 1) k w (by omega) (by omega))
  have HD : Hid (digs s = str (decDigits k)) := hid (by unfold digs; rw [hk]; rfl)
  rw [hk] at c3
  clear hk
  have q0 : ((ByteArray.mk #[118, 97, 114]).toList == (ByteArray.mk #[110, 97, 109, 101]).toList) = false := lit_ne (by decide)
  have q1 : ((ByteArray.mk #[118, 97, 114]).toList == (ByteArray.mk #[116, 111]).toList) = false := lit_ne (by decide)
  clear hc he
  unfold aVar
  go_enter Tryz.func39, Tryz.ntmps39
  go_wp2_with fail
  refine HX.out.mono ?_
  rintro e w1 ⟨rfl, hb1⟩
  go_wp2
  go_ret
  exact ⟨by rw [HD.out]; rfl, hb1⟩
theorem sattrKind (B : Nat) (s : StepD) (g o : Nat) (vc ve : Value) (w : World) (hF : Fine s) (hs : SAt w g o s vc ve) (hc : Nd.At w B vc s.cond) (he : Nd.At w B ve s.expr) (j : Nat) (hj : j < (kindA s).length) :
    Calls Tryz.prog 39 #[.pointer (some ⟨g, o, none⟩), .string (kindA s)[j].name] w fun e w' => e = .returned (.string (kindA s)[j].value) ∧ Below w.heap.size w w' := by
  rcases kinds hF.kind with k | k | k | k | k | k | k | k
  · simp [kind0 (s := s) (by omega)] at hj
  · have e := kind2 k
    simp only [e] at hj ⊢
    obtain rfl : j = 0 := by simpa using hj
    exact sattrName B s g o vc ve w hs hc he
  · simp [kind0 (s := s) (by omega)] at hj
  · simp [kind0 (s := s) (by omega)] at hj
  · have e := kind5 k
    simp only [e] at hj ⊢
    obtain rfl : j = 0 := by simpa using hj
    exact sattrMsg B s g o vc ve w hF.arg.1 hF.arg.2 hs hc he
  · have e := kind6 (s := s) (by omega)
    simp only [e] at hj ⊢
    obtain rfl : j = 0 := by simpa using hj
    exact sattrTicks B s g o vc ve w hF.arg.1 hF.arg.2 hs hc he
  · have e := kind7 k
    simp only [e] at hj ⊢
    match j, hj with
    | 0, _ => exact sattrVar B s g o vc ve w hF.arg.1 hF.arg.2 hs hc he
    | 1, _ => exact sattrTo B s g o vc ve w (hF.expr k) hs hc he
  · have e := kind6 (s := s) (by omega)
    simp only [e] at hj ⊢
    obtain rfl : j = 0 := by simpa using hj
    exact sattrTicks B s g o vc ve w hF.arg.1 hF.arg.2 hs hc he
end Tf
end Go.Proofs.YtgghigfflpbjiaaGreatDoor
