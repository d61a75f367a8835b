/- Draws of chapter 13: a journal and a line to append. No condition. -/
import Derived.Test.YtiliahibnhfhoaaJdD
import Derived.Test.YtiliahibnhfhoaaJdE
namespace Go.Proofs.Ytiliahibnhfhoaa
open Go.RowKit
set_option linter.unusedVariables false
namespace Jn
theorem code_up {B B' len : Nat} {w : World} {a : Option Addr} (h : Drw.CodeAt B w a len) (hB : B ≤ B') : Drw.CodeAt B' w a len := by
  rcases h with h | ⟨b, off, rfl, hb, hc⟩
  · exact .inl h
  · exact .inr ⟨b, off, rfl, by omega, hc⟩
def ADraw (w : World) (e : Ending) (w' : World) : Prop := ∃ (s l x : List UInt8) (x1 : Option Addr) (k1 : Nat) (x2 : Option Addr) (k2 : Nat), e = .returned (.tuple #[.agg #[.slice x1 s.length k1, .slice x2 l.length k2], .string (str x)]) ∧ Jo w' w.heap.size (.slice x1 s.length k1) (.slice x2 l.length k2) s l ∧ s.length ≤ 2401 ∧ l.length ≤ 2401 ∧ x.length ≤ 41 ∧ Below w.heap.size w w'
set_option maxRecDepth 100000 in
set_option maxHeartbeats 8000000 in
theorem appendD (len cap : Nat) (a : Option Addr) (w : World) (hln : len ≤ 1048576) (hc : Drw.CodeAt w.heap.size w a len) :
    Calls Try.prog 48 #[.slice a len cap] w (ADraw w) := by
  have hcode := hid (fun w' (hg : w.grownBy w' (some (w.heap.size + 1))) => hc.grown hg (Nat.le_refl _) (fun k e => by have := Option.some.inj e; omega))
  obtain ⟨RR, hRR⟩ : ∃ RR, Hid (RR = ADraw w) := ⟨_, hid rfl⟩
  rw [← hRR.out]
  obtain ⟨hb0, hx0, hx1, hx2⟩ := two_blocks w #[.slice none 0 0, .slice none 0 0] #[.slice a len cap, .int .i64 0] 44 94
  have HB0 := hid hb0
  have HX0 := hid hx0
  have HX1 := hid hx1
  have HX2 := hid hx2
  clear hc hb0 hx0 hx1 hx2
  go_enter Try.func48, Try.ntmps48
  go_wp2_with fail
  refine (Drw.source a len cap _).mono ?_
  rintro e w1 ⟨rfl, hw1⟩
  have HW1 := hid hw1
  have B1 := hid (show Below w.heap.size w w1 by rw [hw1]; exact HB0.out)
  have P0 := hid (show w1.heap[w.heap.size]? = some (.cells #[.slice none 0 0, .slice none 0 0] 44 (0, 0)) by rw [hw1]; exact HX0.out)
  have P1 := hid (show Drw.Src w1 (w.heap.size + 1) a len cap 0 by rw [hw1]; exact HX1.out)
  have l1 : w1.heap.size = w.heap.size + 1 + 1 := by rw [hw1]; exact HX2.out
  have L1 := hid l1
  clear hw1 HW1 HB0 HX0 HX1 HX2 l1
  simp only [World.size_alloc]
  go_wp2_with fail
  refine (journalD w.heap.size (w.heap.size + 1) len cap 0 a _ P1.out (hcode.out _ (grown_below B1.out)) (by omega) (by omega) (by omega)).mono ?_
  rintro e w2 ⟨s, l, x1, k1, x2, k2, rfl, hj, hs1, hl1, ⟨p, hp, hsr⟩, hg2⟩
  have hl2 := hg2.size
  have hL1 := L1.out
  have lw2 : w.heap.size + 1 + 1 ≤ w2.heap.size := by omega
  have K0' : JK w (w2.alloc (.cells #[.slice x1 s.length k1, .slice x2 l.length k2] 44)) a len cap p w2.heap.size (.slice x1 s.length k1) (.slice x2 l.length k2) s l := by
    have hbA : Below w2.heap.size w2 (w2.alloc (.cells #[.slice x1 s.length k1, .slice x2 l.length k2] 44)) := (Below.refl w2.heap.size w2).alloc (Nat.le_refl _) _
    exact ⟨Drw.grown_after (Drw.grown_after (grown_below B1.out) hg2) (grown_below hbA), src_below hsr hbA (by omega), heap_alloc_new w2 _, (hbA.block _ (by omega)).trans ((hg2.block _ (by omega) (fun e => by have := Option.some.inj e; omega)).trans P0.out), (hj.below hbA (Nat.le_refl _)).mono (by omega), by omega⟩
  obtain ⟨w3, hw3⟩ : ∃ w3, w3 = w2.alloc (.cells #[.slice x1 s.length k1, .slice x2 l.length k2] 44) := ⟨_, rfl⟩
  obtain ⟨g5, hg5⟩ : ∃ g5, g5 = w2.heap.size := ⟨_, rfl⟩
  have HK0 := hid K0'
  rw [← hw3, ← hg5] at HK0
  clear hj hsr hg2 K0' hL1 hl2 L1 lw2
  go_upto_region 3 with fail
  rw [← hw3, ← hg5]
  clear hw3 hg5
  have K0 := HK0.out
  clear HK0
  go_wp2_with fail
  refine (lineD w.heap.size (w.heap.size + 1) len cap p a _ K0.src (hcode.out _ K0.st) (by omega) (by omega) (by omega)).mono ?_
  rintro e w4 ⟨x, hx, rfl, hs4, hg4⟩
  have K1 := K0.turn hg4 hs4
  obtain ⟨sx, hsx⟩ : ∃ sx, sx = str x := ⟨_, rfl⟩
  have HSX : Hid (∃ x : List UInt8, x.length ≤ 41 ∧ sx = str x) := hid ⟨x, by omega, hsx⟩
  rw [← hsx]
  clear hs4 hg4 hx hsx K0
  go_wp2_with fail
  refine (Drw.chance w.heap.size (w.heap.size + 1) len cap (p + 1) 8 a _ K1.src (hcode.out _ K1.st) (by omega) (by omega) (by omega) (by omega) (by omega)).mono ?_
  rintro e w5 ⟨t, rfl, hs5, hg5⟩
  have K2 := K1.turn hg5 hs5
  clear hs5 hg5 K1
  cases t with
  | false =>
    have m0 := blk_cell K2.b (o := 0) (v := .slice x1 s.length k1) rfl
    have m1 := blk_cell K2.b (o := 1) (v := .slice x2 l.length k2) rfl
    have z0 := blk_cell K2.res (o := 0) (v := .slice none 0 0) rfl
    have z1 := blk_cell K2.res (o := 1) (v := .slice none 0 0) rfl
    have y0 := blk_free (o := 0) K2.res
    have y1 := blk_free (o := 1) K2.res
    have HJ := (K2.jo.set (b := w.heap.size) (c := 0) (u := .slice x1 s.length k1) (by omega)).set (b := w.heap.size) (c := 1) (u := .slice x2 l.length k2) (by omega)
    have HBW : Below w.heap.size w ((w5.setCell ⟨w.heap.size, 0, none⟩ (.slice x1 s.length k1)).setCell ⟨w.heap.size, 1, none⟩ (.slice x2 l.length k2)) := setB (setB (below_of_grown K2.st) (Nat.le_refl _) _) (Nat.le_refl _) _
    have h1 := blk_set K2.res 0 (.slice x1 s.length k1) rfl (by simp)
    have h2 := blk_set h1 1 (.slice x2 l.length k2) rfl (by simp)
    go_wp2
    refine bodyPost_ret (results_row_tmp Try.results48 _ _ w.heap.size 44 #[.slice x1 s.length k1, .slice x2 l.length k2] (0, 0) _ rfl (by simpa using h2) Try.underlying44 rfl info2) rfl ?_
    rw [hRR.out]
    obtain ⟨xx, hxx, hexx⟩ := HSX.out
    exact ⟨s, l, xx, x1, k1, x2, k2, by rw [← hexx]; rfl, HJ.mono (by omega), hs1, hl1, hxx, HBW⟩
  | true =>
    go_wp2_with fail
    refine (lineFaultD len cap a _ hln (code_up (hcode.out _ K2.st) (by have := K2.lt; omega))).mono ?_
    rintro e w6 ⟨x3, hx3, rfl, hb6⟩
    have K3 := K2.below hb6
    obtain ⟨sx3, hsx3⟩ : ∃ sx, sx = str x3 := ⟨_, rfl⟩
    have HSX3 : Hid (∃ x : List UInt8, x.length ≤ 41 ∧ sx3 = str x) := hid ⟨x3, hx3, hsx3⟩
    rw [← hsx3]
    clear hb6 hx3 hsx3 K2
    have m0 := blk_cell K3.b (o := 0) (v := .slice x1 s.length k1) rfl
    have m1 := blk_cell K3.b (o := 1) (v := .slice x2 l.length k2) rfl
    have z0 := blk_cell K3.res (o := 0) (v := .slice none 0 0) rfl
    have z1 := blk_cell K3.res (o := 1) (v := .slice none 0 0) rfl
    have y0 := blk_free (o := 0) K3.res
    have y1 := blk_free (o := 1) K3.res
    have HJ := (K3.jo.set (b := w.heap.size) (c := 0) (u := .slice x1 s.length k1) (by omega)).set (b := w.heap.size) (c := 1) (u := .slice x2 l.length k2) (by omega)
    have HBW : Below w.heap.size w ((w6.setCell ⟨w.heap.size, 0, none⟩ (.slice x1 s.length k1)).setCell ⟨w.heap.size, 1, none⟩ (.slice x2 l.length k2)) := setB (setB (below_of_grown K3.st) (Nat.le_refl _) _) (Nat.le_refl _) _
    have h1 := blk_set K3.res 0 (.slice x1 s.length k1) rfl (by simp)
    have h2 := blk_set h1 1 (.slice x2 l.length k2) rfl (by simp)
    go_wp2
    refine bodyPost_ret (results_row_tmp Try.results48 _ _ w.heap.size 44 #[.slice x1 s.length k1, .slice x2 l.length k2] (0, 0) _ rfl (by simpa using h2) Try.underlying44 rfl info2) rfl ?_
    rw [hRR.out]
    obtain ⟨xx, hxx, hexx⟩ := HSX3.out
    exact ⟨s, l, xx, x1, k1, x2, k2, by rw [← hexx]; rfl, HJ.mono (by omega), hs1, hl1, hxx, HBW⟩
end Jn
end Go.Proofs.Ytiliahibnhfhoaa
