/- What the specification draws of expressions: DrawParseExpr: some text. -/
import Derived.Test.YtdidbnhfknpheaaDoorDrF
namespace Go.Proofs.YtdidbnhfknpheaaDoor
open Go.RowKit
set_option linter.unusedVariables false
namespace DrE
open Ex
open Nd (NodeD)
theorem pickP {w : World} : ∀ (i : Nat) (z : Int), ([48, 40, 118, 57, 41] : List Int)[i]? = some z → (w.alloc (.cells #[.int .i64 48, .int .i64 40, .int .i64 118, .int .i64 57, .int .i64 41] 2)).cell? ⟨w.heap.size, i, none⟩ = some (.int .i64 z)
  | 0, z, h => by cases h; go_simp
  | 1, z, h => by cases h; go_simp
  | 2, z, h => by cases h; go_simp
  | 3, z, h => by cases h; go_simp
  | 4, z, h => by cases h; go_simp
  | i + 5, z, h => by simp at h
theorem txt_pos : ∀ (t : Tm), 0 < t.txt.length
  | ⟨[], false, n⟩ => by obtain ⟨b, s, h⟩ := dec_cons n.toNat; simp only [Tm.txt, h, List.length_cons]; omega
  | ⟨[], true, n⟩ => by simp [Tm.txt]
  | ⟨[t], _, _⟩ => by simp [Tm.txt]
  | ⟨l :: r :: _, _, k⟩ => by simp [Tm.txt]
theorem termText {tm : Tm} {v : Value} {B0 : Nat} {w : World} (hok : tm.ok) (hsz : tm.size ≤ 16) (ha : Nd.At w B0 v (tm.nodes 0)) :
    Calls Tryd.prog 15 #[v, .int .i64 ((tm.size : Int) - 1)] w fun e w' => e = .returned (.string (str tm.txt)) ∧ Below w.heap.size w w' := by
  have hp := size_pos tm
  have hl : (tm.nodes 0).length = tm.size := nodes_len tm 0
  have ht := top_self (near_of_ok hok)
  unfold topF at ht
  rw [hl] at ht
  have := specText (tm.nodes 0) v B0 (fun k hk => by
    have := nodes_code tm 0 hok k hk
    rw [Nat.zero_add] at this
    rwa [NJ_eq hk]) (by omega) tm.size (tm.size - 1) tm 0 w (by omega) (by omega) ht ha
  rwa [show ((tm.size - 1 : Nat) : Int) = (tm.size : Int) - 1 by omega] at this
end DrE
end Go.Proofs.YtdidbnhfknpheaaDoor
