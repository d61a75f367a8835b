/- Laid together: JnU, JnO, WoA. -/
import Derived.Test.YtccklgopcjilcaaGreatDoorJWF21
import Derived.Test.YtccklgopcjilcaaGreatDoorJWF18
import Derived.ProofKit
import Derived.OpenShut
import Derived.Test.YtccklgopcjilcaaGreatDoorJWF17
/- What the laws do with journals: measured, copied, compared, marked, held. No condition. -/
namespace Go.Proofs.YtccklgopcjilcaaGreatDoor
open Go.RowKit
set_option linter.unusedVariables false
namespace Jn
/-- A journal of one's own: its two rows share nothing. -/
structure Jo (w : World) (B : Nat) (v1 v2 : Value) (s l : List UInt8) : Prop where
  o1 : Ob w B v1 s
  o2 : Ob w B v2 l
  d : ∀ b, v1.ownBlock = some b → v2.ownBlock ≠ some b
theorem Jo.below {w w' : World} {B C : Nat} {v1 v2 : Value} {s l : List UInt8} (h : Jo w B v1 v2 s l) (hb : Below C w w') (hC : w.heap.size ≤ C) : Jo w' B v1 v2 s l := ⟨h.o1.below hb hC, h.o2.below hb hC, h.d⟩
theorem Jo.mono {w : World} {B B' : Nat} {v1 v2 : Value} {s l : List UInt8} (h : Jo w B v1 v2 s l) (hB : B' ≤ B) : Jo w B' v1 v2 s l := ⟨ob_mono h.o1 hB, ob_mono h.o2 hB, h.d⟩
theorem Jo.set {w : World} {B b c : Nat} {v1 v2 u : Value} {s l : List UInt8} (h : Jo w B v1 v2 s l) (hb : b < B) : Jo (w.setCell ⟨b, c, none⟩ u) B v1 v2 s l := ⟨ob_set h.o1 hb, ob_set h.o2 hb, h.d⟩
theorem Jo.kept {w w' : World} {B : Nat} {v1 v2 : Value} {s l : List UInt8} {row : Option Nat} (h : Jo w B v1 v2 s l) (hg : w.grownBy w' row) (h1 : ∀ b, v1.ownBlock = some b → row ≠ some b) (h2 : ∀ b, v2.ownBlock = some b → row ≠ some b) : Jo w' B v1 v2 s l := ⟨h.o1.kept hg h1, h.o2.kept hg h2, h.d⟩
theorem szB (a : Option Addr) (n c : Nat) (left : Int) (w : World) (h0 : 0 ≤ left) (h1 : left ≤ 1048576) (hn : n ≤ 9223372036854775807) : Calls Tryz.prog 104 #[.slice a n c, .int .i64 left] w fun e w' => e = .returned (.int .i64 (if left - (n : Int) < 0 then -1 else left - (n : Int))) ∧ w' = w := by
  by_cases h : left - (n : Int) < 0
  · rw [if_pos h]
    go_enter Tryz.func104, Tryz.ntmps104
    go_wp2
    go_ret
    exact ⟨rfl, rfl⟩
  · rw [if_neg h]
    go_enter Tryz.func104, Tryz.ntmps104
    go_wp2
    go_ret
    exact ⟨rfl, rfl⟩
set_option maxRecDepth 100000 in
set_option maxHeartbeats 1000000 in
theorem szJ (a1 a2 : Option Addr) (n1 c1 n2 c2 : Nat) (w : World) (h1 : n1 ≤ 9223372036854775807) (h2 : n2 ≤ 9223372036854775807) : Calls Tryz.prog 54 #[.agg #[.slice a1 n1 c1, .slice a2 n2 c2], .int .i64 1048576] w fun e w' => (∃ r : Int, e = .returned (.int .i64 r) ∧ (¬ r < 0 → n1 + n2 ≤ 1048576)) ∧ Below w.heap.size w w' := by
  have HS1 := hid (fun w' => szB a1 n1 c1 1048576 w' (by omega) (by omega) h1)
  have hb0 : Below w.heap.size w (w.alloc (.cells #[.slice a1 n1 c1, .slice a2 n2 c2] 51)) := (Below.refl _ w).alloc (Nat.le_refl _) _
  by_cases q : (1048576 : Int) - (n1 : Int) < 0
  · rw [if_pos q] at HS1
    clear q
    go_enter Tryz.func54, Tryz.ntmps54
    go_wp2_with fail
    refine (HS1.out _).mono ?_
    rintro e w1 ⟨rfl, hw⟩
    replace hw := hw.symm
    subst hw
    go_wp2
    go_ret
    exact ⟨⟨-1, rfl, fun h => by omega⟩, hb0⟩
  · rw [if_neg q] at HS1
    have HS2 := hid (fun w' => szB a2 n2 c2 (1048576 - (n1 : Int)) w' (by omega) (by omega) h2)
    by_cases q2 : (1048576 : Int) - (n1 : Int) - (n2 : Int) < 0
    · rw [if_pos q2] at HS2
      go_enter Tryz.func54, Tryz.ntmps54
      go_wp2_with fail
      refine (HS1.out _).mono ?_
      rintro e w1 ⟨rfl, hw⟩
      replace hw := hw.symm
      subst hw
      go_wp2_with fail
      refine (HS2.out _).mono ?_
      rintro e w1 ⟨rfl, hw⟩
      replace hw := hw.symm
      subst hw
      go_wp2
      go_ret
      exact ⟨⟨-1, rfl, fun h => by omega⟩, hb0⟩
    · rw [if_neg q2] at HS2
      go_enter Tryz.func54, Tryz.ntmps54
      go_wp2_with fail
      refine (HS1.out _).mono ?_
      rintro e w1 ⟨rfl, hw⟩
      replace hw := hw.symm
      subst hw
      go_wp2_with fail
      refine (HS2.out _).mono ?_
      rintro e w1 ⟨rfl, hw⟩
      replace hw := hw.symm
      subst hw
      go_wp2
      go_ret
      exact ⟨⟨_, rfl, fun h => by omega⟩, hb0⟩
set_option maxRecDepth 100000 in
set_option maxHeartbeats 2000000 in
theorem toJ (B : Nat) (s l : List UInt8) (v1 v2 : Value) (w : World) (h1 : s.length ≤ 1048576) (h2 : l.length ≤ 1048576) (hB : B ≤ w.heap.size) (ha1 : At w B v1 s) (ha2 : At w B v2 l) :
    Calls Tryz.prog 56 #[.agg #[v1, v2]] w fun e w' => ∃ x1 k1 x2 k2, e = .returned (.agg #[.slice x1 s.length k1, .slice x2 l.length k2]) ∧ Jo w' w.heap.size (.slice x1 s.length k1) (.slice x2 l.length k2) s l ∧ Below w.heap.size w w' := by
  obtain ⟨a1, c1, rfl, _⟩ := ha1.slice
  obtain ⟨a2, c2, rfl, _⟩ := ha2.slice
  have hb0 : Below w.heap.size w (((w.alloc (.cells #[.slice a1 s.length c1, .slice a2 l.length c2] 51)).alloc (.cells #[.slice none 0 0, .slice none 0 0] 33)).alloc (.cells #[.slice none 0 0, .slice none 0 0] 33)) := (((Below.refl _ w).alloc (Nat.le_refl _) _).alloc (by simp) _).alloc (by simp; omega) _
  have HT1 := hid (fun w' (hb : Below w.heap.size w w') => toS B s _ w' h1 (Nat.le_trans hB hb.size) (ha1.below hb hB))
  have HT2 := hid (fun w' (hb : Below w.heap.size w w') => toS B l _ w' h2 (Nat.le_trans hB hb.size) (ha2.below hb hB))
  have HB0 := hid hb0
  clear ha1 ha2 hb0
  go_enter Tryz.func56, Tryz.ntmps56
  go_wp2_with fail
  refine (HT1.out _ HB0.out).mono ?_
  rintro e w1 ⟨x1, k1, rfl, ho1, hb1⟩
  have B1 := HB0.out.trans (hb1.mono HB0.out.size)
  simp only [World.size_alloc] at hb1 ho1
  have l1 : w.heap.size + 1 + 1 + 1 ≤ w1.heap.size := by have := hb1.size; simpa using this
  have p1 : w1.heap[w.heap.size]? = some (.cells #[.slice a1 s.length c1, .slice a2 l.length c2] 51 (0, 0)) := (hb1.block _ (by omega)).trans ((Below.heap_alloc _ _ _ (by simp; omega)).trans ((Below.heap_alloc _ _ _ (by simp)).trans (heap_alloc_new w _)))
  have p2 : w1.heap[w.heap.size + 1]? = some (.cells #[.slice none 0 0, .slice none 0 0] 33 (0, 0)) := (hb1.block _ (by omega)).trans ((Below.heap_alloc _ _ _ (by simp)).trans (by have := heap_alloc_new (w.alloc (.cells #[.slice a1 s.length c1, .slice a2 l.length c2] 51)) (.cells #[.slice none 0 0, .slice none 0 0] 33); simpa using this))
  have p3 : w1.heap[w.heap.size + 1 + 1]? = some (.cells #[.slice none 0 0, .slice none 0 0] 33 (0, 0)) := (hb1.block _ (by omega)).trans (by have := heap_alloc_new ((w.alloc (.cells #[.slice a1 s.length c1, .slice a2 l.length c2] 51)).alloc (.cells #[.slice none 0 0, .slice none 0 0] 33)) (.cells #[.slice none 0 0, .slice none 0 0] 33); simpa using this)
  have c10 := blk_cell p1 (o := 1) (v := .slice a2 l.length c2) rfl
  have c30 := blk_cell p3 (o := 0) (v := .slice none 0 0) rfl
  have f30 := blk_free (o := 0) p3
  have BX : Below w.heap.size w (w1.setCell ⟨w.heap.size + 1 + 1, 0, none⟩ (.slice x1 s.length k1)) := B1.setCell (by simp; omega) _
  have px2 : (w1.setCell ⟨w.heap.size + 1 + 1, 0, none⟩ (.slice x1 s.length k1)).heap[w.heap.size + 1]? = _ := (Below.heap_setCell _ _ _ _ (by dsimp only; omega)).trans p2
  have px3 : (w1.setCell ⟨w.heap.size + 1 + 1, 0, none⟩ (.slice x1 s.length k1)).heap[w.heap.size + 1 + 1]? = some (.cells #[.slice x1 s.length k1, .slice none 0 0] 33 (0, 0)) := blk_set p3 0 (.slice x1 s.length k1) rfl (by simp)
  have hOX : Ob (w1.setCell ⟨w.heap.size + 1 + 1, 0, none⟩ (.slice x1 s.length k1)) (w.heap.size + 1 + 1 + 1) (.slice x1 s.length k1) s := ob_set ho1 (by omega)
  have hsz : (w1.setCell ⟨w.heap.size + 1 + 1, 0, none⟩ (.slice x1 s.length k1)).heap.size = w1.heap.size := by simp [World.setCell]
  have HSZ := hid hsz
  clear hsz p1 p2 p3 ho1 hb1
  go_wp2_with fail
  refine (HT2.out _ BX).mono ?_
  rintro e w2 ⟨x2, k2, rfl, ho2, hb2⟩
  have B2 := BX.trans (hb2.mono BX.size)
  have q2 : w2.heap[w.heap.size + 1]? = some (.cells #[.slice none 0 0, .slice none 0 0] 33 (0, 0)) := (hb2.block _ (by rw [HSZ.out]; omega)).trans px2
  have q3 : w2.heap[w.heap.size + 1 + 1]? = some (.cells #[.slice x1 s.length k1, .slice none 0 0] 33 (0, 0)) := (hb2.block _ (by rw [HSZ.out]; omega)).trans px3
  have hO1 := hOX.below hb2 (Nat.le_refl _)
  have l2 : w1.heap.size ≤ w2.heap.size := by have := hb2.size; rw [HSZ.out] at this; exact this
  have hD : ∀ b, (Value.slice x1 s.length k1).ownBlock = some b → (Value.slice x2 l.length k2).ownBlock ≠ some b := fun b e1 e2 => by
    have h1 := (hOX.lt b e1).2
    have h2 := (ho2.lt b e2).1
    omega
  have hO2 := ob_mono ho2 (show w.heap.size + 1 + 1 + 1 ≤ (w1.setCell ⟨w.heap.size + 1 + 1, 0, none⟩ (.slice x1 s.length k1)).heap.size by rw [HSZ.out]; exact l1)
  have HJ : Hid (Jo w2 (w.heap.size + 1 + 1 + 1) (.slice x1 s.length k1) (.slice x2 l.length k2) s l) := hid ⟨hO1, hO2, hD⟩
  have d30 := blk_cell q3 (o := 0) (v := .slice x1 s.length k1) rfl
  have d31 := blk_cell q3 (o := 1) (v := .slice none 0 0) rfl
  have g31 := blk_free (o := 1) q3
  have e0 : (w2.setCell ⟨w.heap.size + 1 + 1, 1, none⟩ (.slice x2 l.length k2)).heap[w.heap.size + 1]? = _ := (Below.heap_setCell _ _ _ _ (by dsimp only; omega)).trans q2
  have r0 := blk_cell e0 (o := 0) (v := .slice none 0 0) rfl
  have r1 := blk_cell e0 (o := 1) (v := .slice none 0 0) rfl
  have f0 := blk_free (o := 0) e0
  have f1 := blk_free (o := 1) e0
  have B3 := hid B2
  have lw : w.heap.size + 1 + 1 < w2.heap.size := by omega
  clear hb2 ho2 px2 px3 hOX hO1 hO2 hD q2 q3 B2 BX B1 HB0 c10 c30 f30 e0
  go_wp2
  refine bodyPost_ret (v := .agg #[.slice x1 s.length k1, .slice x2 l.length k2]) (by simp [results, Tryz.results56, go_sem, r0, r1]) rfl ⟨x1, k1, x2, k2, rfl, ?_, ?_⟩
  · exact (((HJ.out.set (by omega)).set (by omega)).set (by omega)).mono (by omega)
  · exact setB (setB (setB B3.out (by omega) _) (by omega) _) (by omega) _
set_option maxRecDepth 100000 in
set_option maxHeartbeats 2000000 in
theorem eqJ (s l : List UInt8) (x1 x2 y1 y2 : Value) (w : World) (hs : s.length ≤ 1048576) (hl : l.length ≤ 1048576) (h1 : At w w.heap.size x1 s) (h2 : At w w.heap.size x2 l) (h3 : At w w.heap.size y1 s) (h4 : At w w.heap.size y2 l) :
    Calls Tryz.prog 59 #[.agg #[x1, x2], .agg #[y1, y2]] w fun e w' => e = .returned (.bool true) ∧ Below w.heap.size w w' := by
  obtain ⟨a1, c1, rfl, _⟩ := h1.slice
  obtain ⟨a2, c2, rfl, _⟩ := h2.slice
  obtain ⟨a3, c3, rfl, _⟩ := h3.slice
  obtain ⟨a4, c4, rfl, _⟩ := h4.slice
  have hB : Below w.heap.size w ((w.alloc (.cells #[.slice a1 s.length c1, .slice a2 l.length c2] 33)).alloc (.cells #[.slice a3 s.length c3, .slice a4 l.length c4] 33)) := ((Below.refl _ w).alloc (Nat.le_refl _) _).alloc (by simp) _
  have HE1 := hid (fun w' (hb : Below w.heap.size w w') => eqS w.heap.size _ _ s w' hs (h1.below hb (Nat.le_refl _)) (h3.below hb (Nat.le_refl _)) hb.size)
  have HE2 := hid (fun w' (hb : Below w.heap.size w w') => eqS w.heap.size _ _ l w' hl (h2.below hb (Nat.le_refl _)) (h4.below hb (Nat.le_refl _)) hb.size)
  have HB := hid hB
  clear h1 h2 h3 h4 hB
  go_enter Tryz.func59, Tryz.ntmps59
  go_wp2_with fail
  refine (HE1.out _ HB.out).mono ?_
  rintro e w1 ⟨rfl, hb1⟩
  have B1 := HB.out.trans (hb1.mono HB.out.size)
  simp only [World.size_alloc] at hb1
  have p1 : w1.cell? ⟨w.heap.size, 1, none⟩ = some (.slice a2 l.length c2) := kept_cell hb1 (by omega) (by go_simp)
  have p2 : w1.cell? ⟨w.heap.size + 1, 1, none⟩ = some (.slice a4 l.length c4) := kept_cell hb1 (by omega) (by go_simp)
  clear hb1
  go_wp2_with fail
  refine (HE2.out _ B1).mono ?_
  rintro e w2 ⟨rfl, hb2⟩
  have B2 := B1.trans (hb2.mono B1.size)
  clear hb2
  go_wp2
  go_ret
  exact ⟨rfl, B2⟩
end Jn
end Go.Proofs.YtccklgopcjilcaaGreatDoor
/- Bytes, and a journal, as they come in. No condition. -/
namespace Go.Proofs.YtccklgopcjilcaaGreatDoor
open Go.ChangeShapes Go.WideShapes Go.ChangeAt Go.RowKit
set_option linter.unusedVariables false
namespace Jn
theorem bytes_at {W : World} {len cap : Nat} {zs : List Int} {x : Addr} (hlc : len ≤ cap) (hz : len ≤ zs.length) (hcell : ∀ i, i < zs.length → W.cell? (x.add i) = some (.int .u8 (zs.getD i 0))) (hwz : ∀ n ∈ zs, (Lit.int .u8 n).wf = true) : ∃ l, At W W.heap.size (.slice (some x) len cap) l ∧ l.length = len := by
  refine ⟨(List.range len).map fun i => UInt8.ofNat (zs.getD i 0).toNat, ?_, by simp⟩
  refine ⟨some x, cap, by simp, by simpa using hlc, fun i hi => ?_⟩
  have hi' : i < len := by simpa using hi
  obtain ⟨b, off, spot⟩ := x
  have hc := hcell 0 (by omega)
  have hspot : spot = none := by simpa [Addr.add] using World.cell?_spot hc
  subst hspot
  have hc0 : W.cell? ⟨b, off, none⟩ = some (.int .u8 (zs.getD 0 0)) := by simpa [Addr.add] using hc
  refine ⟨b, off, rfl, ?_, ?_⟩
  · by_cases hb : b < W.heap.size
    · exact hb
    · simp [World.cell?, Array.getElem?_eq_none (Nat.le_of_not_lt hb)] at hc0
  · have hci := hcell i (by omega)
    have hw := hwz (zs.getD i 0) (by
      rw [List.getD_eq_getElem?_getD, List.getElem?_eq_getElem (by omega), Option.getD_some]
      exact List.getElem_mem _)
    rw [addn] at hci
    rw [hci]
    simp only [List.getElem_map, List.getElem_range]
    generalize zs.getD i 0 = z at *
    have hz0 := bounds_u8 hw
    unfold vb
    rw [UInt8.toNat_ofNat', Nat.mod_eq_of_lt (by omega)]
    rw [show ((z.toNat : Nat) : Int) = z by omega]
section
variable {H : Type} {enc : TypeId × Value → H} {w : World} {base : Nat} {spare : Nat → Bool} {held : Bool} {fuel : Nat}
theorem open_bytes {v : Value} {x : DataW H × List MemPlace} (h : DataW.trod enc Tryz.prog w base spare held fuel 31 [v] = some x) : ∃ l, At w w.heap.size v l ∧ l.length ≤ maxLen := by
  rcases open_ints Tryz.underlying31 Tryz.underlying5 (by kernel_rfl) h with ⟨hcs, _⟩ | ⟨x, l, c, zs, hcs, _, hl, hm, hz, _, hcell, hwz⟩
  · obtain rfl : v = .slice none 0 0 := by simpa using hcs
    exact ⟨[], at_nil _ _ _ _, Nat.zero_le _⟩
  · obtain rfl : v = .slice (some x) l c := by simpa using hcs
    obtain ⟨es, h1, h2⟩ := bytes_at hl (by rw [hz]; split <;> omega) hcell hwz
    exact ⟨es, h1, by omega⟩
theorem cellsJ : Tryz.prog.cellsOf 51 = 2 := by kernel_rfl
theorem cellsB : Tryz.prog.cellsOf 31 = 1 := by kernel_rfl
set_option maxRecDepth 100000 in
theorem open_journal {cs : List Value} {x : DataW H × List MemPlace} (h : DataW.trod enc Tryz.prog w base spare held fuel 51 cs = some x) :
    ∃ (l1 l2 : List UInt8) (v1 v2 : Value), cs = [v1, v2] ∧ At w w.heap.size v1 l1 ∧ At w w.heap.size v2 l2 ∧ l1.length ≤ maxLen ∧ l2.length ≤ maxLen := by
  obtain ⟨xs, n, rfl, _, hlen, hxl, hf⟩ := DataW.trod_struct Tryz.underlying51 h
  have h0 := hf 0 _ rfl
  have h1 := hf 1 _ rfl
  rw [cellsJ] at hlen
  match cs, hlen with
  | [a, b], _ =>
    match xs, hxl with
    | [x0, x1], _ =>
      simp [cellsB] at h0 h1
      obtain ⟨l1, hn1, hn2⟩ := open_bytes h0
      obtain ⟨l2, hf1, hf2⟩ := open_bytes h1
      exact ⟨l1, l2, a, b, rfl, hn1, hf1, hn2, hf2⟩
end
end Jn
end Go.Proofs.YtccklgopcjilcaaGreatDoor
/- A world in memory: a desk and a journal; the law's measure of it, its comparison; an argument that is one. -/
namespace Go.Proofs.YtccklgopcjilcaaGreatDoor
open Go.RowKit Go.Deep
set_option linter.unusedVariables false
namespace Wo
open Ex (hid)
open St (StepD old_cell old_free setB)
open Ei (InstD)
open En (EngD)
open Cl (ClD)
open Dk (DeskD)
open Ch (blk_set blk_cell blk_free new_blk new_at blk_lt)
structure WorldD where
  desk : DeskD
  sure : List UInt8
  loose : List UInt8
structure At (w : World) (B : Nat) (vp vi vc vs vl : Value) (x : WorldD) : Prop where
  desk : Dk.At w B vp vi vc x.desk
  sure : Jn.At w w.heap.size vs x.sure
  loose : Jn.At w w.heap.size vl x.loose
theorem At.below {w w' : World} {B : Nat} {vp vi vc vs vl : Value} {x : WorldD} (h : At w B vp vi vc vs vl x) (hb : Below w.heap.size w w') : At w' B vp vi vc vs vl x := ⟨h.desk.below hb, (h.sure.below hb (Nat.le_refl _)).mono hb.size, (h.loose.below hb (Nat.le_refl _)).mono hb.size⟩
theorem At.mono {w : World} {B B' : Nat} {vp vi vc vs vl : Value} {x : WorldD} (h : At w B vp vi vc vs vl x) (hB : B' ≤ B) : At w B' vp vi vc vs vl x := ⟨h.desk.mono hB, h.sure, h.loose⟩
theorem At.slices {w : World} {B : Nat} {vp vi vc vs vl : Value} {x : WorldD} (h : At w B vp vi vc vs vl x) : (∃ a k, vp = .slice a x.desk.eng.procs.length k) ∧ (∃ a k, vi = .slice a x.desk.eng.insts.length k) ∧ (∃ a k, vc = .slice a x.desk.claims.length k) ∧ (∃ a k, vs = .slice a x.sure.length k) ∧ ∃ a k, vl = .slice a x.loose.length k := by
  obtain ⟨h1, h2, h3⟩ := h.desk.slices
  obtain ⟨a, k, e1, _⟩ := h.sure.slice
  obtain ⟨b, l, e2, _⟩ := h.loose.slice
  exact ⟨h1, h2, h3, ⟨a, k, e1⟩, b, l, e2⟩
structure Ok (x : WorldD) : Prop where
  desk : Dk.Ok x.desk
  ns : x.sure.length ≤ maxLen
  nl : x.loose.length ≤ maxLen
structure Small (n : Int) (x : WorldD) : Prop where
  desk : Dk.Small n x.desk
  sure : (x.sure.length : Int) ≤ n
  loose : (x.loose.length : Int) ≤ n
theorem Small.nat {x : WorldD} (h : Small 1048576 x) : x.sure.length ≤ 1048576 ∧ x.loose.length ≤ 1048576 := ⟨by have := h.sure; omega, by have := h.loose; omega⟩
set_option maxRecDepth 100000 in
set_option maxHeartbeats 1000000 in
theorem szJn (a1 a2 : Option Addr) (n1 c1 n2 c2 : Nat) (n : Int) (w : World) (h0 : 0 ≤ n) (hn : n ≤ 1048576) (h1 : n1 ≤ 9223372036854775807) (h2 : n2 ≤ 9223372036854775807) : Calls Tryz.prog 54 #[.agg #[.slice a1 n1 c1, .slice a2 n2 c2], .int .i64 n] w fun e w' => (∃ r : Int, e = .returned (.int .i64 r) ∧ -1 ≤ r ∧ r ≤ n ∧ (0 ≤ r → (n1 : Int) ≤ n ∧ (n2 : Int) ≤ n)) ∧ Below w.heap.size w w' := by
  have HS1 := hid (fun w' => Jn.szB a1 n1 c1 n w' h0 hn h1)
  have hb0 : Below w.heap.size w (w.alloc (.cells #[.slice a1 n1 c1, .slice a2 n2 c2] 51)) := (Below.refl _ w).alloc (Nat.le_refl _) _
  by_cases q : n - (n1 : Int) < 0
  · rw [if_pos q] at HS1
    go_enter Tryz.func54, Tryz.ntmps54
    go_wp2_with fail
    refine (HS1.out _).mono ?_
    rintro e w1 ⟨rfl, hw⟩
    replace hw := hw.symm
    subst hw
    go_wp2
    go_ret
    exact ⟨⟨-1, rfl, by omega, by omega, fun h => by omega⟩, hb0⟩
  · rw [if_neg q] at HS1
    have HS2 := hid (fun w' => Jn.szB a2 n2 c2 (n - (n1 : Int)) w' (by omega) (by omega) h2)
    by_cases q2 : n - (n1 : Int) - (n2 : Int) < 0
    · rw [if_pos q2] at HS2
      go_enter Tryz.func54, Tryz.ntmps54
      go_wp2_with fail
      refine (HS1.out _).mono ?_
      rintro e w1 ⟨rfl, hw⟩
      replace hw := hw.symm
      subst hw
      go_wp2_with fail
      refine (HS2.out _).mono ?_
      rintro e w1 ⟨rfl, hw⟩
      replace hw := hw.symm
      subst hw
      go_wp2
      go_ret
      exact ⟨⟨-1, rfl, by omega, by omega, fun h => by omega⟩, hb0⟩
    · rw [if_neg q2] at HS2
      go_enter Tryz.func54, Tryz.ntmps54
      go_wp2_with fail
      refine (HS1.out _).mono ?_
      rintro e w1 ⟨rfl, hw⟩
      replace hw := hw.symm
      subst hw
      go_wp2_with fail
      refine (HS2.out _).mono ?_
      rintro e w1 ⟨rfl, hw⟩
      replace hw := hw.symm
      subst hw
      go_wp2
      go_ret
      exact ⟨⟨_, rfl, by omega, by omega, fun h => by omega⟩, hb0⟩
set_option maxRecDepth 100000 in
set_option maxHeartbeats 2000000 in
theorem sz (B : Nat) (x : WorldD) (vp vi vc vs vl : Value) (n : Int) (w : World) (h0 : 0 ≤ n) (hn : n ≤ 1048576) (hk : Ok x) (ha : At w B vp vi vc vs vl x) :
    Calls Tryz.prog 18 #[.agg #[vp, vi, .int .i64 x.desk.eng.now, vc, vs, vl], .int .i64 n] w fun z w' => (∃ r : Int, z = .returned (.int .i64 r) ∧ -1 ≤ r ∧ r ≤ n ∧ (0 ≤ r → Small n x)) ∧ Below w.heap.size w w' := by
  obtain ⟨⟨a1, k1, rfl⟩, ⟨a2, k2, rfl⟩, ⟨a3, k3, rfl⟩, ⟨a4, k4, rfl⟩, a5, k5, rfl⟩ := ha.slices
  obtain ⟨w0, e0⟩ : ∃ w0, w0 = w.alloc (.cells #[.slice a1 x.desk.eng.procs.length k1, .slice a2 x.desk.eng.insts.length k2, .int .i64 x.desk.eng.now, .slice a3 x.desk.claims.length k3, .slice a4 x.sure.length k4, .slice a5 x.loose.length k5] 53) := ⟨_, rfl⟩
  have hb0 : Below w.heap.size w w0 := by rw [e0]; exact (Below.refl _ w).alloc (Nat.le_refl _) _
  have hc : w0.heap[w.heap.size]? = some (.cells #[.slice a1 x.desk.eng.procs.length k1, .slice a2 x.desk.eng.insts.length k2, .int .i64 x.desk.eng.now, .slice a3 x.desk.claims.length k3, .slice a4 x.sure.length k4, .slice a5 x.loose.length k5] 53) := by rw [e0]; exact new_blk _ _
  have HB := hid hb0
  have HK := hid hk
  have HZ := hid (Dk.sz B x.desk _ _ _ n w0 h0 hn hk.desk (ha.below hb0).desk)
  clear ha hk hb0
  go_enter Tryz.func18, Tryz.ntmps18
  go_wp2_with fail
  rw [← e0]
  clear e0
  refine HZ.out.mono ?_
  rintro z w1 ⟨⟨x1, rfl, p1, p2, p3⟩, hb1⟩
  have HB1 := hid (HB.out.trans (hb1.mono HB.out.size))
  have hc1 := (hb1.block _ (blk_lt hc)).trans hc
  clear hb1 HB hc HZ
  by_cases q1 : x1 < 0
  · clear hc1
    go_wp2
    go_ret
    exact ⟨⟨-1, rfl, by omega, by omega, by omega⟩, HB1.out⟩
  have P3 := hid (p3 (by omega))
  have c4 : w1.cell? ⟨w.heap.size, 4, none⟩ = some (.slice a4 x.sure.length k4) := by rw [blk_cell hc1]; rfl
  have c5 : w1.cell? ⟨w.heap.size, 5, none⟩ = some (.slice a5 x.loose.length k5) := by rw [blk_cell hc1]; rfl
  have l1 := blk_lt hc1
  have HZ2 := hid (szJn a4 a5 x.sure.length k4 x.loose.length k5 x1 w1 (by omega) (by omega) (by have := HK.out.ns; unfold maxLen at this; omega) (by have := HK.out.nl; unfold maxLen at this; omega))
  clear p3 hc1
  go_wp2_with fail
  refine HZ2.out.mono ?_
  rintro z w2 ⟨⟨x2, rfl, s1, s2, s3⟩, hb2⟩
  have HB2 := hid (HB1.out.trans (hb2.mono HB1.out.size))
  clear c4 c5 l1 hb2
  by_cases q2 : x2 < 0
  · go_wp2
    go_ret
    exact ⟨⟨-1, rfl, by omega, by omega, by omega⟩, HB2.out⟩
  have S3 := hid (s3 (by omega))
  clear s3
  go_wp2
  go_ret
  exact ⟨⟨x2, rfl, by omega, by omega, fun _ => ⟨P3.out, by have := S3.out.1; omega, by have := S3.out.2; omega⟩⟩, HB2.out⟩
theorem cellsW : Tryz.prog.cellsOf 53 = 6 := by kernel_rfl
theorem cellsD : Tryz.prog.cellsOf 50 = 4 := by kernel_rfl
theorem cellsJ : Tryz.prog.cellsOf 51 = 2 := by kernel_rfl
set_option maxRecDepth 100000 in
theorem open_all {H : Type} {enc : TypeId × Value → H} {w : World} {base : Nat} {spare : Nat → Bool} {held : Bool} {fuel : Nat} {cs : List Value} {x : DataW H × List MemPlace} (h : DataW.trod enc Tryz.prog w base spare held fuel 53 cs = some x) :
    ∃ (d : WorldD) (vp vi vc vs vl : Value), cs = [vp, vi, .int .i64 d.desk.eng.now, vc, vs, vl] ∧ At w 0 vp vi vc vs vl d ∧ Ok d := by
  obtain ⟨xs, n, rfl, _, hlen, hxl, hf⟩ := DataW.trod_struct Tryz.underlying53 h
  have h0 := hf 0 _ rfl
  have h1 := hf 1 _ rfl
  rw [cellsW] at hlen
  match cs, hlen with
  | [a, b, c, e, f, g], _ =>
    match xs, hxl with
    | [x0, x1], _ =>
      simp [cellsD, cellsJ] at h0 h1
      obtain ⟨d, vp, vi, vc, e1, p1, p2⟩ := Dk.open_all h0
      obtain ⟨l1, l2, v1, v2, e2, i1, i2, i3, i4⟩ := Jn.open_journal h1
      cases e1
      cases e2
      exact ⟨⟨d, l1, l2⟩, _, _, _, _, _, rfl, ⟨p1, i1, i2⟩, ⟨p2, i3, i4⟩⟩
set_option maxRecDepth 100000 in
set_option maxHeartbeats 2000000 in
theorem eq (B1 B2 : Nat) (x : WorldD) (vp vi vc vs vl up ui uc us ul : Value) (w : World) (hl : Small 1048576 x) (h1 : At w B1 vp vi vc vs vl x) (h2 : At w B2 up ui uc us ul x) :
    Calls Tryz.prog 22 #[.agg #[vp, vi, .int .i64 x.desk.eng.now, vc, vs, vl], .agg #[up, ui, .int .i64 x.desk.eng.now, uc, us, ul]] w fun z w' => z = .returned (.bool true) ∧ Below w.heap.size w w' := by
  obtain ⟨⟨a1, k1, rfl⟩, ⟨a2, k2, rfl⟩, ⟨a3, k3, rfl⟩, ⟨a4, k4, rfl⟩, a5, k5, rfl⟩ := h1.slices
  obtain ⟨⟨b1, l1, rfl⟩, ⟨b2, l2, rfl⟩, ⟨b3, l3, rfl⟩, ⟨b4, l4, rfl⟩, b5, l5, rfl⟩ := h2.slices
  obtain ⟨w0, e0⟩ : ∃ w0, w0 = (w.alloc (.cells #[.slice a1 x.desk.eng.procs.length k1, .slice a2 x.desk.eng.insts.length k2, .int .i64 x.desk.eng.now, .slice a3 x.desk.claims.length k3, .slice a4 x.sure.length k4, .slice a5 x.loose.length k5] 35)).alloc (.cells #[.slice b1 x.desk.eng.procs.length l1, .slice b2 x.desk.eng.insts.length l2, .int .i64 x.desk.eng.now, .slice b3 x.desk.claims.length l3, .slice b4 x.sure.length l4, .slice b5 x.loose.length l5] 35) := ⟨_, rfl⟩
  have hB : Below w.heap.size w w0 := by rw [e0]; exact ((Below.refl _ w).alloc (Nat.le_refl _) _).alloc (by simp) _
  have K0 : w0.heap[w.heap.size]? = some (.cells #[.slice a1 x.desk.eng.procs.length k1, .slice a2 x.desk.eng.insts.length k2, .int .i64 x.desk.eng.now, .slice a3 x.desk.claims.length k3, .slice a4 x.sure.length k4, .slice a5 x.loose.length k5] 35) := by rw [e0, Below.heap_alloc _ _ _ (by simp), new_blk]
  have K1 : w0.heap[w.heap.size + 1]? = some (.cells #[.slice b1 x.desk.eng.procs.length l1, .slice b2 x.desk.eng.insts.length l2, .int .i64 x.desk.eng.now, .slice b3 x.desk.claims.length l3, .slice b4 x.sure.length l4, .slice b5 x.loose.length l5] 35) := by rw [e0]; exact new_at (by simp) _
  have H1 := hid (h1.below hB)
  have H2 := hid (h2.below hB)
  have HB := hid hB
  have HL := hid hl
  have HE := hid (Dk.eq B1 B2 x.desk _ _ _ _ _ _ w0 HL.out.desk H1.out.desk H2.out.desk)
  clear h1 h2 hB hl
  go_enter Tryz.func22, Tryz.ntmps22
  go_wp2_with fail
  rw [← e0]
  clear e0
  refine HE.out.mono ?_
  rintro z w1 ⟨rfl, hb1⟩
  have HB1 := hid (HB.out.trans (hb1.mono HB.out.size))
  have K0a := hid ((hb1.block _ (blk_lt K0)).trans K0)
  have K1a := hid ((hb1.block _ (blk_lt K1)).trans K1)
  have c4 : w1.cell? ⟨w.heap.size, 4, none⟩ = some (.slice a4 x.sure.length k4) := by rw [blk_cell K0a.out]; rfl
  have c5 : w1.cell? ⟨w.heap.size, 5, none⟩ = some (.slice a5 x.loose.length k5) := by rw [blk_cell K0a.out]; rfl
  have d4 : w1.cell? ⟨w.heap.size + 1, 4, none⟩ = some (.slice b4 x.sure.length l4) := by rw [blk_cell K1a.out]; rfl
  have d5 : w1.cell? ⟨w.heap.size + 1, 5, none⟩ = some (.slice b5 x.loose.length l5) := by rw [blk_cell K1a.out]; rfl
  have HE2 := hid (Jn.eqJ x.sure x.loose _ _ _ _ w1 HL.out.nat.1 HL.out.nat.2 (H1.out.below hb1).sure (H1.out.below hb1).loose (H2.out.below hb1).sure (H2.out.below hb1).loose)
  have m0 := blk_lt K0a.out
  have m1 := blk_lt K1a.out
  clear hb1 K0 K1 HB H1 H2 HE
  go_wp2_with fail
  refine HE2.out.mono ?_
  rintro z w2 ⟨rfl, hb2⟩
  have HB2 := hid (HB1.out.trans (hb2.mono HB1.out.size))
  clear hb2 K0a K1a c4 c5 d4 d5 m0 m1 HB1
  go_wp2
  go_ret
  exact ⟨rfl, HB2.out⟩
end Wo
end Go.Proofs.YtccklgopcjilcaaGreatDoor
