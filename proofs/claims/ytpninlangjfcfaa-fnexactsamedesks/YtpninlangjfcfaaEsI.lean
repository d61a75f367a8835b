/- Whether two engines are the same: the program's functions. -/
import Derived.Test.YtpninlangjfcfaaEnA
import Derived.Test.YtpninlangjfcfaaSpC
import Derived.Test.YtpninlangjfcfaaChB
import Derived.Deep.RegionHeld3
namespace Go.Proofs.Ytpninlangjfcfaa
open Go.RowKit Go.Deep
set_option linter.unusedVariables false
namespace En
open St (StepD listEq listEq_step listEq_end listEq_len stepEq bne_int)
open Nd (below_drewN)
open Ei (InstD)
open Ex (hid)
def instEq (a b : InstD) : Bool := a.proc == b.proc && Ch.same a.chart b.chart
def same (a b : EngD) : Bool := a.now == b.now && listEq (listEq stepEq) a.procs b.procs && listEq instEq a.insts b.insts
set_option maxRecDepth 100000 in
set_option maxHeartbeats 1000000 in
theorem haveSame (B1 B2 : Nat) (l m : List StepD) (v1 v2 : Value) (w : World) (hl : St.Small 1048576 l) (hm : St.Small 1048576 m) (h1 : St.At w B1 v1 l) (h2 : St.At w B2 v2 m) :
    Calls Try.prog 26 #[.agg #[v1], .agg #[v2]] w fun e w' => e = .returned (.bool (listEq stepEq l m)) ∧ Below w.heap.size w w' := by
  obtain ⟨a1, c1, rfl⟩ := h1.slice
  obtain ⟨a2, c2, rfl⟩ := h2.slice
  have hB : Below w.heap.size w ((w.alloc (.cells #[.slice a1 l.length c1] 53)).alloc (.cells #[.slice a2 m.length c2] 53)) := ((Below.refl _ w).alloc (Nat.le_refl _) _).alloc (by simp) _
  have HC := hid (St.implSame B1 B2 l m _ _ _ hl hm (h1.below hB) (h2.below hB))
  have HB := hid hB
  clear h1 h2 hl hm hB
  go_enter Try.func26, Try.ntmps26
  go_wp2_with fail
  refine HC.out.mono ?_
  rintro e w1 ⟨rfl, hb1⟩
  have HB1 := hid (HB.out.trans (hb1.mono HB.out.size))
  clear hb1
  go_wp2
  go_ret
  exact ⟨rfl, HB1.out⟩
set_option maxRecDepth 100000 in
set_option maxHeartbeats 8000000 in
theorem equalFunc (B1 B2 : Nat) (l m : List (List StepD)) (v1 v2 : Value) (w : World) (hl : Ep.Small 1048576 l) (hm : Ep.Small 1048576 m) (h1 : Ep.At w B1 v1 l) (h2 : Ep.At w B2 v2 m) :
    Calls Try.prog 25 #[v1, v2, .func (.func 26) #[] #[]] w fun e w' => e = .returned (.bool (listEq (listEq stepEq) l m)) ∧ Below w.heap.size w w' := by
  obtain ⟨a1, c1, rfl⟩ := h1.slice
  obtain ⟨a2, c2, rfl⟩ := h2.slice
  have H1 := hid h1
  have H2 := hid h2
  have HL := hid hl
  have HM := hid hm
  have hlen := hl.1
  have hmen := hm.1
  clear h1 h2 hl hm
  by_cases he : l.length = m.length
  · have hb : ((l.length : Int) != (m.length : Int)) = false := by simp [he]
    have HE := hid he
    clear he
    go_enter Try.func25, Try.ntmps25
    go_wp2
    go_loopw [7, 8, 9, 17] (fun _ _ _ i wr => ∃ k : Nat, i = .int .i64 k ∧ k ≤ l.length ∧ Hid (listEq (listEq stepEq) l m = listEq (listEq stepEq) (l.drop k) (m.drop k)) ∧ Below w.heap.size w wr) (fun _ _ _ i _ => l.length - (intOf i).toNat)
    case atStart => exact ⟨0, rfl, Nat.zero_le _, rfl, Below.refl _ _⟩
    case round =>
      obtain ⟨k, rfl, hk, HS, hbel⟩ := hrel
      by_cases hlt : k < l.length
      · have hlt2 : k < m.length := by rw [← HE.out]; exact hlt
        obtain ⟨g1, o1, x1, rfl, hg1, p0, hc1⟩ := (H1.out.below hbel).at hlt
        obtain ⟨g2, o2, x2, rfl, hg2, q0, hc2⟩ := (H2.out.below hbel).at hlt2
        have t1 : (k : Int) < (l.length : Int) := by omega
        have t2 : (k : Int) < (m.length : Int) := by omega
        have HST := hid (listEq_step (f := listEq stepEq) hlt hlt2)
        have HC : Hid (∀ w1 : World, Below wr.heap.size wr w1 → Calls Try.prog 26 #[.agg #[x1], .agg #[x2]] w1 fun e w' => e = .returned (.bool (listEq stepEq l[k] m[k])) ∧ Below w1.heap.size w1 w') := hid (fun w1 h => haveSame B1 B2 l[k] m[k] x1 x2 w1 (HL.out.at hlt) (HM.out.at hlt2) (hc1.below h) (hc2.below h))
        obtain ⟨a3, c3, rfl⟩ := hc1.slice
        obtain ⟨a5, c5, rfl⟩ := hc2.slice
        clear hc1 hc2
        go_wp2_with fail
        refine (HC.out _ ?hB).mono ?_
        case hB => exact ((Below.refl _ wr).alloc (Nat.le_refl _) _).alloc (by simp) _
        rintro e w1 ⟨rfl, hb1⟩
        have hB1 : Below wr.heap.size wr w1 := (((Below.refl _ wr).alloc (Nat.le_refl _) _).alloc (by simp) _).trans (hb1.mono (by simp; omega))
        have hB2 := hbel.trans (hB1.mono hbel.size)
        cases hE : listEq stepEq l[k] m[k]
        · have HF : Hid (listEq (listEq stepEq) l m = false) := hid (by rw [HS.out, HST.out, hE, Bool.false_and])
          clear hE
          go_wp2
          go_ret
          exact ⟨by rw [HF.out]; rfl, hB2⟩
        · have HF : Hid (listEq (listEq stepEq) l m = listEq (listEq stepEq) (l.drop (k + 1)) (m.drop (k + 1))) := hid (by rw [HS.out, HST.out, hE, Bool.true_and])
          clear hE
          go_wp2
          exact ⟨⟨k + 1, by simp, by omega, HF, hB2⟩, by simp [intOf]; omega⟩
      · have HT : Hid (listEq (listEq stepEq) l m = true) := hid (by rw [HS.out]; exact listEq_end (by omega) (by have := HE.out; omega))
        go_wp2
        go_ret
        exact ⟨by rw [HT.out]; rfl, hbel⟩
  · have hb : ((l.length : Int) != (m.length : Int)) = true := bne_iff_ne.2 (fun e => he (by omega))
    have HE := hid (listEq_len (f := listEq stepEq) he)
    clear he
    go_enter Try.func25, Try.ntmps25
    go_wp2
    go_ret
    exact ⟨by rw [HE.out]; rfl, Below.refl _ _⟩
end En
end Go.Proofs.Ytpninlangjfcfaa
