/- Bytes, and a journal, as they come in. No condition. -/
import Derived.Test.YtiliahibnhfhoaaJnA
import Derived.ProofKit
import Derived.OpenShut
namespace Go.Proofs.Ytiliahibnhfhoaa
open Go.ChangeShapes Go.WideShapes Go.ChangeAt Go.RowKit
set_option linter.unusedVariables false
namespace Jn
theorem bytes_at {W : World} {len cap : Nat} {zs : List Int} {x : Addr} (hlc : len ≤ cap) (hz : len ≤ zs.length) (hcell : ∀ i, i < zs.length → W.cell? (x.add i) = some (.int .u8 (zs.getD i 0))) (hwz : ∀ n ∈ zs, (Lit.int .u8 n).wf = true) : ∃ l, At W W.heap.size (.slice (some x) len cap) l ∧ l.length = len := by
  refine ⟨(List.range len).map fun i => UInt8.ofNat (zs.getD i 0).toNat, ?_, by simp⟩
  refine ⟨some x, cap, by simp, by simpa using hlc, fun i hi => ?_⟩
  have hi' : i < len := by simpa using hi
  obtain ⟨b, off, spot⟩ := x
  have hc := hcell 0 (by omega)
  have hspot : spot = none := by simpa [Addr.add] using World.cell?_spot hc
  subst hspot
  have hc0 : W.cell? ⟨b, off, none⟩ = some (.int .u8 (zs.getD 0 0)) := by simpa [Addr.add] using hc
  refine ⟨b, off, rfl, ?_, ?_⟩
  · by_cases hb : b < W.heap.size
    · exact hb
    · simp [World.cell?, Array.getElem?_eq_none (Nat.le_of_not_lt hb)] at hc0
  · have hci := hcell i (by omega)
    have hw := hwz (zs.getD i 0) (by
      rw [List.getD_eq_getElem?_getD, List.getElem?_eq_getElem (by omega), Option.getD_some]
      exact List.getElem_mem _)
    rw [addn] at hci
    rw [hci]
    simp only [List.getElem_map, List.getElem_range]
    generalize zs.getD i 0 = z at *
    have hz0 := bounds_u8 hw
    unfold vb
    rw [UInt8.toNat_ofNat', Nat.mod_eq_of_lt (by omega)]
    rw [show ((z.toNat : Nat) : Int) = z by omega]
section
variable {H : Type} {enc : TypeId × Value → H} {w : World} {base : Nat} {spare : Nat → Bool} {held : Bool} {fuel : Nat}
theorem open_bytes {v : Value} {x : DataW H × List MemPlace} (h : DataW.trod enc Try.prog w base spare held fuel 24 [v] = some x) : ∃ l, At w w.heap.size v l ∧ l.length ≤ maxLen := by
  rcases open_ints Try.underlying24 Try.underlying5 (by kernel_rfl) h with ⟨hcs, _⟩ | ⟨x, l, c, zs, hcs, _, hl, hm, hz, _, hcell, hwz⟩
  · obtain rfl : v = .slice none 0 0 := by simpa using hcs
    exact ⟨[], at_nil _ _ _ _, Nat.zero_le _⟩
  · obtain rfl : v = .slice (some x) l c := by simpa using hcs
    obtain ⟨es, h1, h2⟩ := bytes_at hl (by rw [hz]; split <;> omega) hcell hwz
    exact ⟨es, h1, by omega⟩
theorem cellsJ : Try.prog.cellsOf 41 = 2 := by kernel_rfl
theorem cellsB : Try.prog.cellsOf 24 = 1 := by kernel_rfl
theorem open_journal {cs : List Value} {x : DataW H × List MemPlace} (h : DataW.trod enc Try.prog w base spare held fuel 41 cs = some x) :
    ∃ (l1 l2 : List UInt8) (v1 v2 : Value), cs = [v1, v2] ∧ At w w.heap.size v1 l1 ∧ At w w.heap.size v2 l2 ∧ l1.length ≤ maxLen ∧ l2.length ≤ maxLen := by
  obtain ⟨xs, n, rfl, _, hlen, hxl, hf⟩ := DataW.trod_struct Try.underlying41 h
  have h0 := hf 0 _ rfl
  have h1 := hf 1 _ rfl
  rw [cellsJ] at hlen
  match cs, hlen with
  | [a, b], _ =>
    match xs, hxl with
    | [x0, x1], _ =>
      simp [cellsB] at h0 h1
      obtain ⟨l1, hn1, hn2⟩ := open_bytes h0
      obtain ⟨l2, hf1, hf2⟩ := open_bytes h1
      exact ⟨l1, l2, a, b, rfl, hn1, hf1, hn2, hf2⟩
end
end Jn
end Go.Proofs.Ytiliahibnhfhoaa
