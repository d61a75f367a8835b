/- Draws of chapter 13: a line, a journal. No condition. -/
import Derived.Test.YtiliahibnhfhoaaJdA
import Derived.Test.YtiliahibnhfhoaaJaT
namespace Go.Proofs.Ytiliahibnhfhoaa
open Go.RowKit
set_option linter.unusedVariables false
namespace Jn
theorem src_below {w w' : World} {S len cap pos C : Nat} {a : Option Addr} (h : Drw.Src w S a len cap pos) (hb : Below C w w') (hS : S < C) : Drw.Src w' S a len cap pos := (hb.block S hS).trans h
theorem code_below {B len C : Nat} {w w' : World} {a : Option Addr} (h : Drw.CodeAt B w a len) (hb : Below C w w') (hB : B ≤ C) : Drw.CodeAt B w' a len := by
  rcases h with h | ⟨b, off, rfl, hb2, hc⟩
  · exact .inl h
  · refine .inr ⟨b, off, rfl, hb2, fun i hi => ?_⟩
    obtain ⟨z, hz, hcz⟩ := hc i hi
    exact ⟨z, hz, (World.cell?_of_block (a := ⟨b, off + i, none⟩) (hb.block b (by omega))).trans hcz⟩
theorem grown_below {w w1 : World} {row : Option Nat} (h : Below w.heap.size w w1) : w.grownBy w1 row := ⟨h.os, h.tape, h.output, h.size, fun k hk _ => h.block k hk⟩
def lineSix : List (List UInt8) := [[115, 116, 97, 114, 116, 32, 48, 32, 53], [99, 108, 97, 105, 109, 32, 49, 32, 48, 32, 50], [116, 105, 99, 107, 32, 51], [109, 97, 105, 108, 32, 48, 32, 49], [100, 111, 110, 101, 32, 49, 32, 48, 32, 50, 32, 55], [120]]
theorem six_at (w : World) (r : Nat) (h : r < 6) : ∃ x : List UInt8, x.length ≤ 16 ∧ (w.alloc (.cells #[.string ⟨#[115, 116, 97, 114, 116, 32, 48, 32, 53]⟩, .string ⟨#[99, 108, 97, 105, 109, 32, 49, 32, 48, 32, 50]⟩, .string ⟨#[116, 105, 99, 107, 32, 51]⟩, .string ⟨#[109, 97, 105, 108, 32, 48, 32, 49]⟩, .string ⟨#[100, 111, 110, 101, 32, 49, 32, 48, 32, 50, 32, 55]⟩, .string ⟨#[120]⟩] 9)).cell? ⟨w.heap.size, r, none⟩ = some (.string (str x)) := by
  match r, h with
  | 0, _ => exact ⟨lineSix.getD 0 [], by decide, by go_simp; rfl⟩
  | 1, _ => exact ⟨lineSix.getD 1 [], by decide, by go_simp; rfl⟩
  | 2, _ => exact ⟨lineSix.getD 2 [], by decide, by go_simp; rfl⟩
  | 3, _ => exact ⟨lineSix.getD 3 [], by decide, by go_simp; rfl⟩
  | 4, _ => exact ⟨lineSix.getD 4 [], by decide, by go_simp; rfl⟩
  | 5, _ => exact ⟨lineSix.getD 5 [], by decide, by go_simp; rfl⟩
set_option maxRecDepth 100000 in
set_option maxHeartbeats 2000000 in
theorem lineD (B S len cap pos : Nat) (a : Option Addr) (w : World) (hs : Drw.Src w S a len cap pos) (hc : Drw.CodeAt B w a len) (hB : B ≤ S) (hl : len ≤ 2000000) (hp : pos ≤ 100000) :
    Calls Try.prog 78 #[.pointer (some ⟨S, 0, none⟩)] w fun e w' => ∃ x : List UInt8, x.length ≤ 16 ∧ e = .returned (.string (str x)) ∧ Drw.Src w' S a len cap (pos + 1) ∧ w.grownBy w' (some S) := by
  have hSl := hs.lt
  obtain ⟨W, hW⟩ : ∃ W, Hid (W = w.alloc (.cells #[.string ⟨#[115, 116, 97, 114, 116, 32, 48, 32, 53]⟩, .string ⟨#[99, 108, 97, 105, 109, 32, 49, 32, 48, 32, 50]⟩, .string ⟨#[116, 105, 99, 107, 32, 51]⟩, .string ⟨#[109, 97, 105, 108, 32, 48, 32, 49]⟩, .string ⟨#[100, 111, 110, 101, 32, 49, 32, 48, 32, 50, 32, 55]⟩, .string ⟨#[120]⟩] 9)) := ⟨_, hid rfl⟩
  have hbW : Below w.heap.size w W := by rw [hW.out]; exact (Below.refl _ w).alloc (Nat.le_refl _) _
  have HN := hid (Drw.next B S len cap pos 6 a W (src_below hs hbW hSl) (code_below hc hbW (by omega)) hB hl (by omega) (by omega) (by omega))
  have HX : Hid (∀ r, r < 6 → ∃ x : List UInt8, x.length ≤ 16 ∧ W.cell? ⟨w.heap.size, r, none⟩ = some (.string (str x))) := hid (fun r h => by rw [hW.out]; exact six_at w r h)
  have hWs : w.heap.size < W.heap.size := by rw [hW.out]; simp
  have HBW := hid hbW
  rw [hW.out] at HN
  clear hs hc hbW
  go_enter Try.func78, Try.ntmps78
  go_wp2_with fail
  refine HN.out.mono ?_
  rintro e w1 ⟨r, hr, rfl, hs1, hg1⟩
  rw [← hW.out] at hg1
  obtain ⟨x, hx, hcell⟩ := HX.out r hr
  have hc1 : w1.cell? ⟨w.heap.size, r, none⟩ = some (.string (str x)) := (World.cell?_of_block (a := ⟨w.heap.size, r, none⟩) (hg1.block w.heap.size hWs (fun e => by cases e; omega))).trans hcell
  have q1 : (r : Int) < 6 := by omega
  have HS1 := hid hs1
  have HG := hid (Drw.grown_after (grown_below HBW.out) hg1)
  have HXX := hid hx
  generalize hsx : str x = sx at *
  have HSX := hid hsx
  clear hs1 hg1 hcell hW hx hsx
  go_wp2
  go_ret
  exact ⟨x, HXX.out, by rw [HSX.out]; rfl, HS1.out, HG.out⟩
end Jn
end Go.Proofs.Ytiliahibnhfhoaa
