/- The specification's reading: l3Take, l3Sign, l3Put. -/
import Derived.Test.YtahkpgffoiaeiaaGreatDoorJProcOf25
import Derived.Test.YtahkpgffoiaeiaaGreatDoorJProcOf31
import Derived.Deep.QuietTactic
import Derived.BigQuiet
namespace Go.Proofs.YtahkpgffoiaeiaaGreatDoor
open Go.RowKit
set_option linter.unusedVariables false
namespace Ex
open Nd (NodeD)
/-- What is read, and up to which place. -/
def Sr (w : World) (R : Nat) (text : List UInt8) (pos : Nat) (ns : List NodeD) : Prop :=
  ∃ v, w.heap[R]? = some (.cells #[.string (str text), .int .i64 (pos : Int), v] 146 (0, 0)) ∧ w.ownsRow (R + 1) 143 4 v ns.length (nvals ns)
theorem Sr.lt {w : World} {R pos : Nat} {text : List UInt8} {ns : List NodeD} (h : Sr w R text pos ns) : R < w.heap.size := by
  obtain ⟨v, h, _⟩ := h
  exact (Array.getElem?_eq_some_iff.1 h).1
theorem Sr.c {w : World} {R pos : Nat} {text : List UInt8} {ns : List NodeD} (h : Sr w R text pos ns) : w.cell? ⟨R, 0, none⟩ = some (.string (str text)) ∧ w.cell? ⟨R, 1, none⟩ = some (.int .i64 (pos : Int)) ∧ w.frozen? ⟨R, 1, none⟩ = false ∧ w.frozen? ⟨R, 2, none⟩ = false ∧ ∃ a cap, w.cell? ⟨R, 2, none⟩ = some (.slice a ns.length cap) ∧ w.ownsRow (R + 1) 143 4 (.slice a ns.length cap) ns.length (nvals ns) := by
  obtain ⟨v, h1, h2⟩ := h
  obtain ⟨a, cap, rfl⟩ := own4_slice h2
  exact ⟨by simp [World.cell?, h1], by simp [World.cell?, h1], by simp [World.frozen?, h1], by simp [World.frozen?, h1], a, cap, by simp [World.cell?, h1], h2⟩
theorem Sr.below {w w' : World} {R pos : Nat} {text : List UInt8} {ns : List NodeD} (h : Sr w R text pos ns) (hb : Below w.heap.size w w') : Sr w' R text pos ns := by
  have hl := h.lt
  obtain ⟨v, h1, h2⟩ := h
  exact ⟨v, (hb.block R hl).trans h1, owns_keep h2 hb⟩
theorem Sr.drewN {w : World} {R pos : Nat} {text : List UInt8} {ns : List NodeD} (h : Sr w R text pos ns) (n : Nat) : Sr (w.drewN n) R text pos ns := h.below (Ints.below_drewN (Below.refl _ w) n)
theorem Sr.setPos {w : World} {R pos : Nat} {text : List UInt8} {ns : List NodeD} (h : Sr w R text pos ns) (p : Nat) (x : Value) (hx : x = .int .i64 (p : Int)) : Sr (w.setCell ⟨R, 1, none⟩ x) R text p ns := by
  subst hx
  obtain ⟨v, h1, h2⟩ := h
  refine ⟨v, ?_, ownsRow_setCell_below h2 (a := ⟨R, 1, none⟩) (Nat.lt_succ_self R) _⟩
  simp [World.setCell, Array.getElem?_modify, h1]
theorem str_get {l : List UInt8} {i : Nat} (h : i < (str l).size) (h' : i < l.length) : ((str l)[i]'h).toNat = (l[i]'h').toNat := rfl
set_option maxRecDepth 100000 in
set_option maxHeartbeats 2000000 in
theorem specTakeYes (R pos : Nat) (b : UInt8) (text : List UInt8) (ns : List NodeD) (w : World) (h : Sr w R text pos ns) (hl : text.length ≤ 1000) (hp : pos < text.length) (hb : text[pos] = b) :
    Calls Tryz.prog 95 #[.pointer (some ⟨R, 0, none⟩), .int .u8 (b.toNat : Int)] w fun e w' => e = .returned (.bool true) ∧ Sr w' R text (pos + 1) ns ∧ Below R w w' := by
  obtain ⟨c0, c1, f1, f2, a, cap, c2, ho⟩ := h.c
  have e1 : (str text).size = text.length := str_size text
  have hps : pos < (str text).size := by omega
  have q1 : (pos : Int) < (text.length : Int) := by omega
  have e3 : ((((str text)[pos]'hps).toNat : Int) == (b.toNat : Int)) = true := by
    have h1 := str_get hps hp
    rw [hb] at h1
    rw [h1]; simp
  have HS := hid h
  clear h hb ho
  generalize str text = st at *
  go_enter Tryz.func95, Tryz.ntmps95
  go_wp2
  go_quiet (fail)
  go_wp2
  go_ret
  exact ⟨rfl, (HS.out.drewN nq).setPos (pos + 1) _ (by simp), (Ints.below_drewN (Below.refl R w) nq).setCell (Nat.le_refl _) _⟩
set_option maxRecDepth 100000 in
set_option maxHeartbeats 2000000 in
theorem specTakeNo (R pos : Nat) (b : UInt8) (text : List UInt8) (ns : List NodeD) (w : World) (h : Sr w R text pos ns) (hl : text.length ≤ 1000) (hp : pos ≤ text.length) (hb : ∀ (hp : pos < text.length), text[pos] ≠ b) :
    Calls Tryz.prog 95 #[.pointer (some ⟨R, 0, none⟩), .int .u8 (b.toNat : Int)] w fun e w' => e = .returned (.bool false) ∧ Sr w' R text pos ns ∧ Below w.heap.size w w' := by
  obtain ⟨c0, c1, f1, f2, a, cap, c2, ho⟩ := h.c
  have e1 : (str text).size = text.length := str_size text
  by_cases hlt : pos < text.length
  · have hps : pos < (str text).size := by omega
    have q1 : (pos : Int) < (text.length : Int) := by omega
    have e3 : ((((str text)[pos]'hps).toNat : Int) == (b.toNat : Int)) = false := by
      have hx := str_get hps hlt
      rw [hx, beq_eq_false_iff_ne]
      intro e
      exact hb hlt (UInt8.toNat_inj.1 (by omega))
    have HS := hid h
    clear h hb ho
    generalize str text = st at *
    go_enter Tryz.func95, Tryz.ntmps95
    go_wp2
    go_quiet (fail)
    go_wp2
    go_ret
    exact ⟨rfl, HS.out.drewN nq, Ints.below_drewN (Below.refl _ w) nq⟩
  · have q1 : ¬ (pos : Int) < (text.length : Int) := by omega
    have HS := hid h
    clear h hb ho
    generalize str text = st at *
    go_enter Tryz.func95, Tryz.ntmps95
    go_wp2
    go_quiet (fail)
    go_wp2
    go_ret
    exact ⟨rfl, HS.out.drewN nq, Ints.below_drewN (Below.refl _ w) nq⟩
set_option maxRecDepth 100000 in
set_option maxHeartbeats 2000000 in
theorem specSign (R pos : Nat) (text : List UInt8) (ns : List NodeD) (w : World) (h : Sr w R text pos ns) (hl : text.length ≤ 1000) (hp : pos ≤ text.length) :
    Calls Tryz.prog 98 #[.pointer (some ⟨R, 0, none⟩)] w fun e w' => (∃ k, signF (text.drop pos) = some (k, text.drop (pos + 1)) ∧ pos < text.length ∧ e = .returned (.int .i64 k) ∧ Sr w' R text (pos + 1) ns ∧ Below R w w') ∨ (signF (text.drop pos) = none ∧ e = .returned (.int .i64 0) ∧ Sr w' R text pos ns ∧ Below R w w') := by
  have HR := hid h
  have hlt := h.lt
  clear h
  go_enter Tryz.func98, Tryz.ntmps98
  go_wp2
  go_loopw [4] (fun x wr => ∃ i : Nat, x = .int .i64 i ∧ i ≤ 7 ∧ Hid (∀ j, j < i → ∀ (hp : pos < text.length), text[pos] ≠ sgs.getD j 0) ∧ Hid (Sr wr R text pos ns) ∧ Hid (Below w.heap.size w wr)) (fun x _ => 7 - (intOf x).toNat)
  case atStart => exact ⟨0, rfl, by omega, hid (fun j h => by omega), HR, hid (Below.refl _ _)⟩
  case round =>
    obtain ⟨i, rfl, hi, HJ, HRI, HBI⟩ := hrel
    by_cases hi7 : i < 7
    · have q1 : (i : Int) < 7 := by omega
      have hix := sg_index hi7
      have HK := hid (kind_at hi7)
      have HY := hid (fun hp hb => specTakeYes R pos (sgs.getD i 0) text ns wr HRI.out hl hp hb)
      have HN := hid (fun hb => specTakeNo R pos (sgs.getD i 0) text ns wr HRI.out hl hp hb)
      generalize hsb : sgs.getD i 0 = sb at *
      have HSB := hid hsb
      clear hsb
      by_cases hh : ∃ hp : pos < text.length, text[pos] = sb
      · obtain ⟨hp2, hb⟩ := hh
        have HC := hid (HY.out hp2 hb)
        have HV : Hid (signF (text.drop pos) = some (3 + (i : Int), text.drop (pos + 1))) := hid (by
          rw [List.drop_eq_getElem_cons hp2, hb]
          simp only [signF]
          rw [HK.out]; rfl)
        clear HY HN HK hb
        go_wp2_with fail
        refine HC.out.mono ?_
        rintro e w1 ⟨rfl, hr1, hb1⟩
        have HR1 := hid hr1
        clear hr1
        go_wp2
        go_ret
        refine .inl ⟨_, HV.out, hp2, ?_, HR1.out, (HBI.out.mono (Nat.le_of_lt hlt)).trans hb1⟩
        rw [show 3 + (i : Int) = (i : Int) + 3 by omega]
        rfl
      · have HC := hid (HN.out (fun hp e => hh ⟨hp, e⟩))
        have HJ2 : Hid (∀ (hp : pos < text.length), text[pos] ≠ sb) := hid (fun hp e => hh ⟨hp, e⟩)
        clear HY HN HK hh
        go_wp2_with fail
        refine HC.out.mono ?_
        rintro e w1 ⟨rfl, hr1, hb1⟩
        have HR1 := hid hr1
        clear hr1
        go_wp2
        refine ⟨⟨i + 1, by simp, by omega, hid (fun j hj => ?_), HR1, hid (HBI.out.trans (hb1.mono HBI.out.size))⟩, by simp [intOf]; omega⟩
        by_cases e : j = i
        · rw [e, HSB.out]; exact HJ2.out
        · exact HJ.out j (by omega)
    · have HV : Hid (signF (text.drop pos) = none) := hid (by
        by_cases hp2 : pos < text.length
        · rw [List.drop_eq_getElem_cons hp2]
          simp only [signF]
          rw [kind_no (fun j hj e => HJ.out j (by omega) hp2 e)]
          rfl
        · rw [List.drop_eq_nil_of_le (by omega)]; rfl)
      go_wp2
      go_ret
      exact .inr ⟨HV.out, rfl, HRI.out, HBI.out.mono (Nat.le_of_lt hlt)⟩
set_option maxRecDepth 100000 in
set_option maxHeartbeats 4000000 in
theorem specPut (R pos : Nat) (text : List UInt8) (ns : List NodeD) (n : NodeD) (w : World) (h : Sr w R text pos ns) (hn : ns.length ≤ 100000) :
    Calls Tryz.prog 97 #[.pointer (some ⟨R, 0, none⟩), .agg #[.int .i64 n.kind, .int .i64 n.value, .int .i64 n.left, .int .i64 n.right]] w fun e w' => e = .returned (.int .i64 (ns.length : Int)) ∧ Sr w' R text pos (ns ++ [n]) ∧ Below R w w' := by
  obtain ⟨j0, hj, hy0, hy1, hy2⟩ := info_parts infoNode
  have hlt := h.lt
  obtain ⟨v, hR, hown⟩ := h
  obtain ⟨a, cap, rfl⟩ := own4_slice hown
  have hb0 : Below w.heap.size w (w.alloc (.cells #[.int .i64 n.kind, .int .i64 n.value, .int .i64 n.left, .int .i64 n.right] 143)) := (Below.refl _ w).alloc (Nat.le_refl _) _
  have hR1 : (w.alloc (.cells #[.int .i64 n.kind, .int .i64 n.value, .int .i64 n.left, .int .i64 n.right] 143)).heap[R]? = some (.cells #[.string (str text), .int .i64 (pos : Int), .slice a ns.length cap] 146 (0, 0)) := (hb0.block R hlt).trans hR
  have u1 : (w.alloc (.cells #[.int .i64 n.kind, .int .i64 n.value, .int .i64 n.left, .int .i64 n.right] 143)).cell? ⟨R, 2, none⟩ = some (.slice a ns.length cap) := by simp [World.cell?, hR1]
  have uf : (w.alloc (.cells #[.int .i64 n.kind, .int .i64 n.value, .int .i64 n.left, .int .i64 n.right] 143)).frozen? ⟨R, 2, none⟩ = false := by simp [World.frozen?, hR1]
  have k0 : (w.alloc (.cells #[.int .i64 n.kind, .int .i64 n.value, .int .i64 n.left, .int .i64 n.right] 143)).cell? ⟨w.heap.size, 0, none⟩ = some (.int .i64 n.kind) := by go_simp
  have k1 : (w.alloc (.cells #[.int .i64 n.kind, .int .i64 n.value, .int .i64 n.left, .int .i64 n.right] 143)).cell? ⟨w.heap.size, 1, none⟩ = some (.int .i64 n.value) := by go_simp
  have k2 : (w.alloc (.cells #[.int .i64 n.kind, .int .i64 n.value, .int .i64 n.left, .int .i64 n.right] 143)).cell? ⟨w.heap.size, 2, none⟩ = some (.int .i64 n.left) := by go_simp
  have k3 : (w.alloc (.cells #[.int .i64 n.kind, .int .i64 n.value, .int .i64 n.left, .int .i64 n.right] 143)).cell? ⟨w.heap.size, 3, none⟩ = some (.int .i64 n.right) := by go_simp
  have hsz : (w.alloc (.cells #[.int .i64 n.kind, .int .i64 n.value, .int .i64 n.left, .int .i64 n.right] 143)).heap.size = w.heap.size + 1 := by simp
  have hneR : (Value.slice a ns.length cap).ownBlock ≠ some R := fun e => by have := (own_lt hown e).1; omega
  have HO1 := hid (owns_keep hown hb0)
  have HB1 := hid hb0
  clear hown hb0
  go_enter Tryz.func97, Tryz.ntmps97
  go_wp2
  have hown1 := HO1.out
  generalize w.alloc (.cells #[.int .i64 n.kind, .int .i64 n.value, .int .i64 n.left, .int .i64 n.right] 143) = w1 at *
  have hal : Below w1.heap.size w1 (w1.alloc (.cells #[.int .i64 n.kind, .int .i64 n.value, .int .i64 n.left, .int .i64 n.right] 143)).drew := ((Below.refl _ w1).alloc (Nat.le_refl _) _).drew
  have hlR : R < w1.heap.size := by omega
  have hlt0 : R < w.heap.size := hlt
  clear hsz
  go_region_law
    (first | (refine step_append_lies _ (by rfl) _ _ _ (by rfl) (R + 1) 143 j0 _ 4 32 Tryz.underlying40 hj hy0 hy1 hy2 rfl (by omega) (.slice a ns.length cap) ns.length (nvals ns) (by rfl) ((hown1.alloc _).drew) ⟨w1.heap.size, 0, none⟩ 1 1 (nval n) (by rfl) (by rfl) (World.news_of_block (cs := #[.int .i64 n.kind, .int .i64 n.value, .int .i64 n.left, .int .i64 n.right]) (t := 143) (fr := (0, 0)) (heap_alloc_new w1 _)) (by simp [nval, Value.oneCell']) (by omega) (by unfold maxLen; omega) (by omega) (by simp; omega) (w1.heap.size + 1) (by simp) ?_; intro gg cp w2 hown2 hgrow hat hlt; have z1 := grown_cell2 hgrow (kept_cell hal hlR u1) hneR; have z2 := grown_free2 hgrow (by simp; omega) (kept_free hal hlR uf) hneR; have HH2 : Hid (w2.heap[R]? = some (.cells #[.string (str text), .int .i64 (pos : Int), .slice a ns.length cap] 146 (0, 0))) := hid ((hgrow.block R (by simp; omega) (Ne.symm hneR)).trans ((hal.block R hlR).trans hR1)); have HB2 : Hid (Below R w w2) := hid ((((HB1.out.mono (Nat.le_of_lt hlt0)).alloc (by omega) _).drew).grown hgrow (by simp; omega) (fun b e => Nat.le_of_lt (own_lt hown1 e).1))))
  all_goals
    have HO2 := hid hown2
    have z3 : (w2.setCell ⟨R, 2, none⟩ (.slice (some ⟨gg, 0, none⟩) (ns.length + 1) cp)).cell? ⟨R, 2, none⟩ = some (.slice (some ⟨gg, 0, none⟩) (ns.length + 1) cp) := World.cell?_setCell_same _ _ _ z1
    clear hown2 hgrow hat hlt z1 z2 hown1 HO1 hal
    go_wp2
    go_ret
    refine ⟨by simp, ⟨.slice (some ⟨gg, 0, none⟩) (ns.length + 1) cp, by simp [World.setCell, Array.getElem?_modify, HH2.out], ?_⟩, HB2.out.setCell (Nat.le_refl _) _⟩
    rw [List.length_append, nvals_snoc]
    exact ownsRow_setCell_below HO2.out (a := ⟨R, 2, none⟩) (Nat.lt_succ_self R) _
end Ex
end Go.Proofs.YtahkpgffoiaeiaaGreatDoor
