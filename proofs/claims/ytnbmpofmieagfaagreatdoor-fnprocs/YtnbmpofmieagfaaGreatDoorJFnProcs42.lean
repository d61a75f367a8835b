/- What the specification draws of expressions: l3Make. -/
import Derived.Test.YtnbmpofmieagfaaGreatDoorJFnProcs11
import Derived.Deep.AppendLies
import Derived.Deep.RegionLaw
import Derived.Deep.RegionHeld3
import Derived.Test.YtnbmpofmieagfaaGreatDoorJFnProcs20
namespace Go.Proofs.YtnbmpofmieagfaaGreatDoor
open Go.RowKit
set_option linter.unusedVariables false
namespace DqE
open Ex
open Nd (NodeD)
theorem src_below {w w' : World} {S len cap pos : Nat} {a : Option Addr} (h : Drw.Src w S a len cap pos) (hb : Below w.heap.size w w') : Drw.Src w' S a len cap pos := (hb.block S h.lt).trans h
theorem src_alloc {w : World} {S len cap pos : Nat} {a : Option Addr} (h : Drw.Src w S a len cap pos) (o : Obj) : Drw.Src (w.alloc o) S a len cap pos := src_below h ((Below.refl _ w).alloc (Nat.le_refl _) o)
theorem src_grown {w w' : World} {row : Option Nat} {S len cap pos : Nat} {a : Option Addr} (h : Drw.Src w S a len cap pos) (hg : w.grownBy w' row) (hne : row ≠ some S) : Drw.Src w' S a len cap pos := h.grown hg (fun e => hne e.symm)
/-- Nothing below Q has turned but the source's block. -/
structure Bx (S Q : Nat) (w w' : World) : Prop where
  os : w'.os = w.os
  tape : w'.tape = w.tape
  output : w'.output = w.output
  size : w.heap.size ≤ w'.heap.size
  low : Q ≤ w.heap.size
  block : ∀ b, b < Q → b ≠ S → w'.heap[b]? = w.heap[b]?
theorem Bx.top {S Q : Nat} {w w' : World} (h : Bx S Q w w') : Q ≤ w'.heap.size := Nat.le_trans h.low h.size
theorem Bx.refl (S : Nat) {Q : Nat} {w : World} (h : Q ≤ w.heap.size) : Bx S Q w w := ⟨rfl, rfl, rfl, Nat.le_refl _, h, fun _ _ _ => rfl⟩
theorem Bx.trans {S Q : Nat} {w w1 w2 : World} (h : Bx S Q w w1) (h2 : Bx S Q w1 w2) : Bx S Q w w2 := ⟨h2.os.trans h.os, h2.tape.trans h.tape, h2.output.trans h.output, Nat.le_trans h.size h2.size, h.low, fun b hb hs => (h2.block b hb hs).trans (h.block b hb hs)⟩
theorem Bx.below {S Q : Nat} {w w1 w2 : World} (h : Bx S Q w w1) (h2 : Below w1.heap.size w1 w2) : Bx S Q w w2 := ⟨h2.os.trans h.os, h2.tape.trans h.tape, h2.output.trans h.output, Nat.le_trans h.size h2.size, h.low, fun b hb hs => (h2.block b (Nat.lt_of_lt_of_le hb h.top)).trans (h.block b hb hs)⟩
theorem Bx.alloc {S Q : Nat} {w w1 : World} (h : Bx S Q w w1) (o : Obj) : Bx S Q w (w1.alloc o) := h.below ((Below.refl _ w1).alloc (Nat.le_refl _) o)
theorem Bx.grown {S Q : Nat} {w w1 w2 : World} {row : Option Nat} (h : Bx S Q w w1) (hg : w1.grownBy w2 row) (hr : ∀ b, row = some b → Q ≤ b) : Bx S Q w w2 := ⟨hg.os.trans h.os, hg.tape.trans h.tape, hg.output.trans h.output, Nat.le_trans h.size hg.size, h.low, fun b hb hs => (hg.block b (Nat.lt_of_lt_of_le hb h.top) (fun e => by have := hr b e.symm; omega)).trans (h.block b hb hs)⟩
theorem Bx.src {S Q : Nat} {w w1 w2 : World} (h : Bx S Q w w1) (hg : w1.grownBy w2 (some S)) : Bx S Q w w2 := ⟨hg.os.trans h.os, hg.tape.trans h.tape, hg.output.trans h.output, Nat.le_trans h.size hg.size, h.low, fun b hb hs => (hg.block b (Nat.lt_of_lt_of_le hb h.top) (fun e => hs (by cases e; rfl))).trans (h.block b hb hs)⟩
theorem Bx.setCell {S Q g i : Nat} {w w1 : World} (h : Bx S Q w w1) (hg : Q ≤ g) (v : Value) : Bx S Q w (w1.setCell ⟨g, i, none⟩ v) := ⟨h.os, h.tape, h.output, by have := h.size; simp [World.setCell]; omega, h.low, fun b hb hs => (Below.heap_setCell _ _ _ _ (by dsimp only; omega)).trans (h.block b hb hs)⟩
theorem Bx.mono {S Q Q' : Nat} {w w1 : World} (h : Bx S Q w w1) (hq : Q' ≤ Q) : Bx S Q' w w1 := ⟨h.os, h.tape, h.output, h.size, Nat.le_trans hq h.low, fun b hb hs => h.block b (by omega) hs⟩
theorem Bx.lower {S Q : Nat} {w w1 : World} (h : Bx S Q w w1) (hq : S ≤ Q) : Below S w w1 := ⟨h.os, h.tape, h.output, h.size, fun b hb => h.block b (by omega) (by omega)⟩
theorem code_src {B len S : Nat} {w w' : World} {a : Option Addr} (h : Drw.CodeAt B w a len) (hg : w.grownBy w' (some S)) (hB : B ≤ S) : Drw.CodeAt B w' a len := by
  rcases h with h | ⟨b, off, rfl, hb2, hc⟩
  · exact .inl h
  · refine .inr ⟨b, off, rfl, hb2, fun i hi => ?_⟩
    obtain ⟨z, hz, hcz⟩ := hc i hi
    exact ⟨z, hz, (World.cell?_of_block (a := ⟨b, off + i, none⟩) (hg.block b (Nd.lt_of_cell hcz) (fun e => by cases e; omega))).trans hcz⟩
theorem code_bx {B len S Q : Nat} {w w' : World} {a : Option Addr} (h : Drw.CodeAt B w a len) (hg : Bx S Q w w') (hB : B ≤ S) (hSQ : S < Q) : Drw.CodeAt B w' a len := by
  rcases h with h | ⟨b, off, rfl, hb2, hc⟩
  · exact .inl h
  · refine .inr ⟨b, off, rfl, hb2, fun i hi => ?_⟩
    obtain ⟨z, hz, hcz⟩ := hc i hi
    exact ⟨z, hz, (World.cell?_of_block (a := ⟨b, off + i, none⟩) (hg.block b (by omega) (by omega))).trans hcz⟩
theorem code_alloc {B len : Nat} {w : World} {a : Option Addr} (h : Drw.CodeAt B w a len) (o : Obj) : Drw.CodeAt B (w.alloc o) a len := by
  rcases h with h | ⟨b, off, rfl, hb2, hc⟩
  · exact .inl h
  · refine .inr ⟨b, off, rfl, hb2, fun i hi => ?_⟩
    obtain ⟨z, hz, hcz⟩ := hc i hi
    exact ⟨z, hz, (World.cell?_alloc_lt w o ⟨b, off + i, none⟩ (Nd.lt_of_cell hcz)).trans hcz⟩
theorem own_src {w w' : World} {S Q n size : Nat} {e : TypeId} {v : Value} {xs : List Value} (h : w.ownsRow Q e size v n xs) (hg : w.grownBy w' (some S)) (hSQ : S < Q) : w'.ownsRow Q e size v n xs := by
  refine ⟨h.1, ?_⟩
  rcases h.2 with hn | ⟨g, cap, cur, rfl, hbg, hgg, rest⟩
  · exact .inl hn
  · exact .inr ⟨g, cap, cur, rfl, hbg, by rw [hg.block g (Array.getElem?_eq_some_iff.1 hgg).1 (fun e => by cases e; omega)]; exact hgg, rest⟩
theorem own_new {w : World} {B n size : Nat} {e : TypeId} {v : Value} {xs : List Value} (h : w.ownsRow B e size v n xs) (o : Obj) : (w.alloc o).ownsRow B e size v n xs := h.alloc o
def MK (B S Q len cap : Nat) (a : Option Addr) (t d : Int) (sz K : Nat) : Prop := ∀ (ns : List NodeD) (v : Value) (pos : Nat) (w : World), Drw.Src w S a len cap pos → Drw.CodeAt B w a len → Q ≤ w.heap.size → w.ownsRow Q 110 4 v ns.length (nvals ns) → ns.length + sz ≤ 100 → pos + K ≤ 1000000 →
  Calls Tryz.prog 90 #[.pointer (some ⟨S, 0, none⟩), v, .int .i64 t, .int .i64 d] w fun e w' => ∃ (tm : Tm) (u : Value) (pos' : Nat), tm.ok ∧ tm.size ≤ sz ∧ e = .returned u ∧ w'.ownsRow Q 110 4 u (ns.length + tm.size) (nvals (ns ++ tm.nodes ns.length)) ∧ Drw.Src w' S a len cap pos' ∧ pos' ≤ pos + K ∧ Bx S Q w w'
set_option maxRecDepth 100000 in
set_option maxHeartbeats 1000000 in
theorem max0 (y : Int) (w : World) (hy : 0 ≤ y) : Calls Tryz.prog 34 #[.int .i64 0, .int .i64 y] w fun e w' => e = .returned (.int .i64 y) ∧ w' = w := by
  have q : ¬ y < 0 := by omega
  go_enter Tryz.func34, Tryz.ntmps34
  go_wp2
  go_ret
  exact ⟨rfl, rfl⟩
theorem five {w : World} {r : Int} : ∀ (i : Nat) (z : Int), ([0, 1, 2, r, 9999] : List Int)[i]? = some z → (w.alloc (.cells #[.int .i64 0, .int .i64 1, .int .i64 2, .int .i64 r, .int .i64 9999] 2)).cell? ⟨w.heap.size, i, none⟩ = some (.int .i64 z)
  | 0, z, h => by cases h; go_simp
  | 1, z, h => by cases h; go_simp
  | 2, z, h => by cases h; go_simp
  | 3, z, h => by cases h; go_simp
  | 4, z, h => by cases h; go_simp
  | i + 5, z, h => by simp at h

set_option maxRecDepth 100000 in
set_option maxHeartbeats 8000000 in
theorem make0 (B S Q len cap : Nat) (a : Option Addr) (hBS : B ≤ S) (hSQ : S < Q) (hln : len ≤ 2000000) : MK B S Q len cap a 1 0 1 4 := by
  intro ns v pos w hs hc hQ ho hn hp
  obtain ⟨j0, hj, hy0, hy1, hy2⟩ := info_parts infoNode
  obtain ⟨av, cv, rfl⟩ := own4_slice ho
  have HS := hid hs
  have HC := hid hc
  have HO := hid ho
  have HB := hid (Bx.refl S hQ)
  clear hs hc ho
  go_enter Tryz.func90, Tryz.ntmps90
  go_wp2_with fail
  refine (Drw.chance B S len cap (pos) 2 a _ HS.out HC.out hBS hln (by omega) (by omega) (by omega)).mono ?_
  rintro e w2 ⟨t2, rfl, hs2, hg2⟩
  have HS2 := hid hs2
  have HB2 := hid (HB.out.src hg2)
  have HC2 := hid (code_src HC.out hg2 hBS)
  have HO2 := hid (own_src HO.out hg2 hSQ)
  clear hs2 hg2 HS HB HC HO
  cases t2
  · go_wp2_with fail
    refine (Drw.next B S len cap (pos + 1) 20 a _ HS2.out HC2.out hBS hln (by omega) (by omega) (by omega)).mono ?_
    rintro e w3 ⟨r, hr, rfl, hs3, hg3⟩
    have HS3 := hid hs3
    have HB3 := hid (HB2.out.src hg3)
    have HC3 := hid (code_src HC2.out hg3 hBS)
    have HO3 := hid (own_src HO2.out hg3 hSQ)
    have hl3 := HS3.out.lt
    have qhl3 := HB3.out.top
    clear hs3 hg3 HS2 HB2 HC2 HO2
    go_wp2_with fail
    have HSa := hid (src_alloc HS3.out (.cells #[.int .i64 0, .int .i64 1, .int .i64 2, .int .i64 (r : Int), .int .i64 9999] 2))
    have HBa : Hid (Bx S Q w (w3.alloc (.cells #[.int .i64 0, .int .i64 1, .int .i64 2, .int .i64 (r : Int), .int .i64 9999] 2))) := hid (HB3.out.alloc _)
    have HCa := hid (code_alloc HC3.out (.cells #[.int .i64 0, .int .i64 1, .int .i64 2, .int .i64 (r : Int), .int .i64 9999] 2))
    have HOa := hid (own_new HO3.out (.cells #[.int .i64 0, .int .i64 1, .int .i64 2, .int .i64 (r : Int), .int .i64 9999] 2))
    refine (Drw.pick B S len cap (pos + 1 + 1) w3.heap.size 5 [0, 1, 2, (r : Int), 9999] a _ HSa.out HCa.out hBS hln (by omega) rfl (by omega) (by omega) (by omega) (by simp) five).mono ?_
    rintro e w4 ⟨z, hz, rfl, hs4, hg4⟩
    have hz2 : 0 ≤ z ∧ z ≤ 9999 := by simp at hz; omega
    have HS4 := hid hs4
    have HB4 := hid (HBa.out.src hg4)
    have HO4 := hid (own_src HOa.out hg4 hSQ)
    have hl4 := HS4.out.lt
    have qhl4 := HB4.out.top
    clear hs4 hg4 HSa HBa HCa HOa HS3 HB3 HC3 HO3 hz
    go_wp2_with (at_builtin; go_must (refine wpList_append_lies _ rfl _ _ 51 rfl Q 110 j0 _ 4 32 Tryz.underlying51 hj hy0 hy1 hy2 rfl (by omega) _ (ns.length) (nvals (ns)) rfl ((HO4.out).alloc _) ⟨w4.heap.size, 0, none⟩ 1 1 (nval ⟨1, z, 0, 0⟩) rfl rfl (World.news_of_block (cs := #[.int .i64 (1), .int .i64 (z), .int .i64 (0), .int .i64 (0)]) (t := 110) (fr := (0, 0)) (heap_alloc_new w4 _)) (by simp [nval, Value.oneCell']) (by omega) (by unfold maxLen; omega) (by omega) (by simp; omega) (w4.heap.size + 1) (by simp) ?_); intro gg cp w9 hown9 hgrow hat hlt)
    have HN9 : Hid (w9.ownsRow Q 110 4 (.slice (some ⟨gg, 0, none⟩) (ns.length + 1) cp) (ns.length + 1) (nvals (ns ++ (Tm.const z).nodes ns.length))) := hid (by
      rw [← nvals_snoc] at hown9
      exact hown9)
    have HB9 : Hid (Bx S Q w w9) := hid ((HB4.out.alloc _).grown hgrow (fun b e => (own_lt (HO4.out) e).1))
    have HS9 : Hid (Drw.Src w9 S a len cap (pos + 1 + 1 + 1)) := hid (src_grown (src_alloc HS4.out _) hgrow (fun e => by have := (own_lt (HO4.out) e).1; omega))
    clear hown9 hgrow hat hlt
    go_wp2
    go_ret
    exact ⟨Tm.const z, _, _, hz2, by simp only [Tm.size]; omega, rfl, HN9.out, HS9.out, by omega, HB9.out⟩
  · go_wp2_with fail
    refine (Drw.next B S len cap (pos + 1) 3 a _ HS2.out HC2.out hBS hln (by omega) (by omega) (by omega)).mono ?_
    rintro e w3 ⟨r, hr, rfl, hs3, hg3⟩
    have HS3 := hid hs3
    have HB3 := hid (HB2.out.src hg3)
    have HO3 := hid (own_src HO2.out hg3 hSQ)
    have hl3 := HS3.out.lt
    have qhl3 := HB3.out.top
    have hr2 : (0 : Int) ≤ (r : Int) ∧ (r : Int) ≤ 3 := by omega
    clear hs3 hg3 HS2 HB2 HC2 HO2
    go_wp2_with (at_builtin; go_must (refine wpList_append_lies _ rfl _ _ 51 rfl Q 110 j0 _ 4 32 Tryz.underlying51 hj hy0 hy1 hy2 rfl (by omega) _ (ns.length) (nvals (ns)) rfl ((HO3.out).alloc _) ⟨w3.heap.size, 0, none⟩ 1 1 (nval ⟨2, (r : Int), 0, 0⟩) rfl rfl (World.news_of_block (cs := #[.int .i64 (2), .int .i64 ((r : Int)), .int .i64 (0), .int .i64 (0)]) (t := 110) (fr := (0, 0)) (heap_alloc_new w3 _)) (by simp [nval, Value.oneCell']) (by omega) (by unfold maxLen; omega) (by omega) (by simp; omega) (w3.heap.size + 1) (by simp) ?_); intro gg cp w9 hown9 hgrow hat hlt)
    have HN9 : Hid (w9.ownsRow Q 110 4 (.slice (some ⟨gg, 0, none⟩) (ns.length + 1) cp) (ns.length + 1) (nvals (ns ++ (Tm.var (r : Int)).nodes ns.length))) := hid (by
      rw [← nvals_snoc] at hown9
      exact hown9)
    have HB9 : Hid (Bx S Q w w9) := hid ((HB3.out.alloc _).grown hgrow (fun b e => (own_lt (HO3.out) e).1))
    have HS9 : Hid (Drw.Src w9 S a len cap (pos + 1 + 1)) := hid (src_grown (src_alloc HS3.out _) hgrow (fun e => by have := (own_lt (HO3.out) e).1; omega))
    clear hown9 hgrow hat hlt
    go_wp2
    go_ret
    exact ⟨Tm.var (r : Int), _, _, hr2, by simp only [Tm.size]; omega, rfl, HN9.out, HS9.out, by omega, HB9.out⟩
set_option maxRecDepth 100000 in
set_option maxHeartbeats 16000000 in
theorem makeInt (B S Q len cap : Nat) (a : Option Addr) (hBS : B ≤ S) (hSQ : S < Q) (hln : len ≤ 2000000) (d : Int) (sz K : Nat) (hd : 1 ≤ d) (hd2 : d ≤ 10) (hsz : sz ≤ 20) (hM : MK B S Q len cap a 1 (d - 1) sz K) : MK B S Q len cap a 1 d (2 * sz + 1) (2 * K + 10) := by
  intro ns v pos w hs hc hQ ho hn hp
  obtain ⟨j0, hj, hy0, hy1, hy2⟩ := info_parts infoNode
  obtain ⟨av, cv, rfl⟩ := own4_slice ho
  have HS := hid hs
  have HC := hid hc
  have HO := hid ho
  have HB := hid (Bx.refl S hQ)
  clear hs hc ho
  have HM := hid hM
  have hd0 : (d == 0) = false := by simp; omega
  clear hM
  go_enter Tryz.func90, Tryz.ntmps90
  go_wp2_with fail
  refine (Drw.chance B S len cap (pos) 3 a _ HS.out HC.out hBS hln (by omega) (by omega) (by omega)).mono ?_
  rintro e wa ⟨tc, rfl, hs2, hg2⟩
  replace HB := hid (HB.out.src hg2)
  replace HC := hid (code_src HC.out hg2 hBS)
  replace HO := hid (own_src HO.out hg2 hSQ)
  replace HS := hid hs2
  clear hs2 hg2
  cases tc
  · skip
    go_wp2_with fail
    refine (Drw.next B S len cap (pos + 1) 4 a _ HS.out HC.out hBS hln (by omega) (by omega) (by omega)).mono ?_
    rintro e wb ⟨rk, hrk, rfl, hs2, hg2⟩
    replace HB := hid (HB.out.src hg2)
    replace HC := hid (code_src HC.out hg2 hBS)
    replace HO := hid (own_src HO.out hg2 hSQ)
    replace HS := hid hs2
    clear hs2 hg2
    have hk10 : ((3 + (rk : Int)) == 10) = false := by simp; omega
    go_wp2_with fail
    refine (max0 (d - 1) _ (by omega)).mono ?_
    rintro e wm ⟨rfl, rfl⟩
    go_wp2_with fail
    refine (HM.out ns _ (pos + 1 + 1) _ HS.out HC.out HB.out.top HO.out (by omega) (by omega)).mono ?_
    rintro e w5 ⟨t1, u1, pos1, ok1, sz1, rfl, ho1, hs1, hp1, hb1⟩
    have hpz1 := size_pos t1
    obtain ⟨a1, c1, rfl⟩ := own4_slice ho1
    have HOK1 := hid ok1
    replace HB := hid (HB.out.trans hb1)
    replace HC := hid (code_bx HC.out hb1 hBS hSQ)
    have hlen1 : (ns ++ t1.nodes ns.length).length = ns.length + t1.size := by rw [List.length_append, nodes_len]
    have HO1 := hid ho1
    replace HS := hid hs1
    have hl5 := HS.out.lt
    have qhl5 := HB.out.top
    clear ok1 ho1 hs1 hb1 HO
    generalize hx1 : ns ++ t1.nodes ns.length = xs1 at *
    have HX1 := hid hx1
    clear hx1
    go_wp2_with fail
    refine (max0 (d - 1) _ (by omega)).mono ?_
    rintro e wm ⟨rfl, rfl⟩
    go_wp2_with fail
    refine (HM.out xs1 _ pos1 _ HS.out HC.out HB.out.top (by rw [hlen1]; exact HO1.out) (by omega) (by omega)).mono ?_
    rintro e w6 ⟨t2, u2, pos2, ok2, sz2, rfl, ho2, hs2, hp2, hb2⟩
    have hpz2 := size_pos t2
    rw [hlen1] at ho2
    obtain ⟨a2, c2, rfl⟩ := own4_slice ho2
    have HOK2 := hid ok2
    replace HB := hid (HB.out.trans hb2)
    have HO2 := hid ho2
    replace HS := hid hs2
    have hl6 := HS.out.lt
    have qhl6 := HB.out.top
    clear ok2 ho2 hs2 hb2 HO1
    have HNN : Hid (ns ++ (Tm.pair (3 + (rk : Int)) t1 t2).nodes ns.length = (xs1 ++ t2.nodes (ns.length + t1.size)) ++ [⟨3 + (rk : Int), 0, ((ns.length + t1.size : Nat) : Int) - 1, ((ns.length + t1.size + t2.size : Nat) : Int) - 1⟩]) := hid (by
      rw [← HX1.out, show ((ns.length + t1.size : Nat) : Int) - 1 = ((ns.length + t1.size - 1 : Nat) : Int) by omega, show ((ns.length + t1.size + t2.size : Nat) : Int) - 1 = ((ns.length + t1.size + t2.size - 1 : Nat) : Int) by omega]
      simp only [Tm.nodes, List.append_assoc])
    have HSZ : Hid (ns.length + (Tm.pair (3 + (rk : Int)) t1 t2).size = ns.length + t1.size + t2.size + 1) := hid (by simp only [Tm.size]; omega)
    go_wp2_with (at_builtin; go_must (refine wpList_append_lies _ rfl _ _ 51 rfl Q 110 j0 _ 4 32 Tryz.underlying51 hj hy0 hy1 hy2 rfl (by omega) _ (ns.length + t1.size + t2.size) (nvals (xs1 ++ t2.nodes (ns.length + t1.size))) rfl ((HO2.out).alloc _) ⟨w6.heap.size, 0, none⟩ 1 1 (nval ⟨3 + (rk : Int), 0, ((ns.length + t1.size : Nat) : Int) - 1, ((ns.length + t1.size + t2.size : Nat) : Int) - 1⟩) rfl rfl (World.news_of_block (cs := #[.int .i64 (3 + (rk : Int)), .int .i64 (0), .int .i64 (((ns.length + t1.size : Nat) : Int) - 1), .int .i64 (((ns.length + t1.size + t2.size : Nat) : Int) - 1)]) (t := 110) (fr := (0, 0)) (heap_alloc_new w6 _)) (by simp [nval, Value.oneCell']) (by omega) (by unfold maxLen; omega) (by omega) (by simp; omega) (w6.heap.size + 1) (by simp) ?_); intro gg cp w9 hown9 hgrow hat hlt)
    have HN9 : Hid (w9.ownsRow Q 110 4 (.slice (some ⟨gg, 0, none⟩) (ns.length + t1.size + t2.size + 1) cp) (ns.length + t1.size + t2.size + 1) (nvals (ns ++ (Tm.pair (3 + (rk : Int)) t1 t2).nodes ns.length))) := hid (by
      rw [← nvals_snoc] at hown9
      exact by rw [HNN.out]; exact hown9)
    have HB9 : Hid (Bx S Q w w9) := hid ((HB.out.alloc _).grown hgrow (fun b e => (own_lt (HO2.out) e).1))
    have HS9 : Hid (Drw.Src w9 S a len cap (pos2)) := hid (src_grown (src_alloc HS.out _) hgrow (fun e => by have := (own_lt (HO2.out) e).1; omega))
    clear hown9 hgrow hat hlt
    go_wp2
    go_ret
    exact ⟨Tm.pair (3 + (rk : Int)) t1 t2, _, _, ⟨⟨by omega, by omega, HOK1.out, HOK2.out⟩, rfl, rfl⟩, by simp only [Tm.size]; omega, rfl, by rw [HSZ.out]; exact HN9.out, HS9.out, by omega, HB9.out⟩
  · skip
    go_wp2_with fail
    refine (Drw.chance B S len cap (pos + 1) 2 a _ HS.out HC.out hBS hln (by omega) (by omega) (by omega)).mono ?_
    rintro e w2 ⟨t2, rfl, hs2, hg2⟩
    have HS2 := hid hs2
    have HB2 := hid (HB.out.src hg2)
    have HC2 := hid (code_src HC.out hg2 hBS)
    have HO2 := hid (own_src HO.out hg2 hSQ)
    clear hs2 hg2 HS HB HC HO
    cases t2
    · go_wp2_with fail
      refine (Drw.next B S len cap (pos + 1 + 1) 20 a _ HS2.out HC2.out hBS hln (by omega) (by omega) (by omega)).mono ?_
      rintro e w3 ⟨r, hr, rfl, hs3, hg3⟩
      have HS3 := hid hs3
      have HB3 := hid (HB2.out.src hg3)
      have HC3 := hid (code_src HC2.out hg3 hBS)
      have HO3 := hid (own_src HO2.out hg3 hSQ)
      have hl3 := HS3.out.lt
      have qhl3 := HB3.out.top
      clear hs3 hg3 HS2 HB2 HC2 HO2
      go_wp2_with fail
      have HSa := hid (src_alloc HS3.out (.cells #[.int .i64 0, .int .i64 1, .int .i64 2, .int .i64 (r : Int), .int .i64 9999] 2))
      have HBa : Hid (Bx S Q w (w3.alloc (.cells #[.int .i64 0, .int .i64 1, .int .i64 2, .int .i64 (r : Int), .int .i64 9999] 2))) := hid (HB3.out.alloc _)
      have HCa := hid (code_alloc HC3.out (.cells #[.int .i64 0, .int .i64 1, .int .i64 2, .int .i64 (r : Int), .int .i64 9999] 2))
      have HOa := hid (own_new HO3.out (.cells #[.int .i64 0, .int .i64 1, .int .i64 2, .int .i64 (r : Int), .int .i64 9999] 2))
      refine (Drw.pick B S len cap (pos + 1 + 1 + 1) w3.heap.size 5 [0, 1, 2, (r : Int), 9999] a _ HSa.out HCa.out hBS hln (by omega) rfl (by omega) (by omega) (by omega) (by simp) five).mono ?_
      rintro e w4 ⟨z, hz, rfl, hs4, hg4⟩
      have hz2 : 0 ≤ z ∧ z ≤ 9999 := by simp at hz; omega
      have HS4 := hid hs4
      have HB4 := hid (HBa.out.src hg4)
      have HO4 := hid (own_src HOa.out hg4 hSQ)
      have hl4 := HS4.out.lt
      have qhl4 := HB4.out.top
      clear hs4 hg4 HSa HBa HCa HOa HS3 HB3 HC3 HO3 hz
      go_wp2_with (at_builtin; go_must (refine wpList_append_lies _ rfl _ _ 51 rfl Q 110 j0 _ 4 32 Tryz.underlying51 hj hy0 hy1 hy2 rfl (by omega) _ (ns.length) (nvals (ns)) rfl ((HO4.out).alloc _) ⟨w4.heap.size, 0, none⟩ 1 1 (nval ⟨1, z, 0, 0⟩) rfl rfl (World.news_of_block (cs := #[.int .i64 (1), .int .i64 (z), .int .i64 (0), .int .i64 (0)]) (t := 110) (fr := (0, 0)) (heap_alloc_new w4 _)) (by simp [nval, Value.oneCell']) (by omega) (by unfold maxLen; omega) (by omega) (by simp; omega) (w4.heap.size + 1) (by simp) ?_); intro gg cp w9 hown9 hgrow hat hlt)
      have HN9 : Hid (w9.ownsRow Q 110 4 (.slice (some ⟨gg, 0, none⟩) (ns.length + 1) cp) (ns.length + 1) (nvals (ns ++ (Tm.const z).nodes ns.length))) := hid (by
        rw [← nvals_snoc] at hown9
        exact hown9)
      have HB9 : Hid (Bx S Q w w9) := hid ((HB4.out.alloc _).grown hgrow (fun b e => (own_lt (HO4.out) e).1))
      have HS9 : Hid (Drw.Src w9 S a len cap (pos + 1 + 1 + 1 + 1)) := hid (src_grown (src_alloc HS4.out _) hgrow (fun e => by have := (own_lt (HO4.out) e).1; omega))
      clear hown9 hgrow hat hlt
      go_wp2
      go_ret
      exact ⟨Tm.const z, _, _, hz2, by simp only [Tm.size]; omega, rfl, HN9.out, HS9.out, by omega, HB9.out⟩
    · go_wp2_with fail
      refine (Drw.next B S len cap (pos + 1 + 1) 3 a _ HS2.out HC2.out hBS hln (by omega) (by omega) (by omega)).mono ?_
      rintro e w3 ⟨r, hr, rfl, hs3, hg3⟩
      have HS3 := hid hs3
      have HB3 := hid (HB2.out.src hg3)
      have HO3 := hid (own_src HO2.out hg3 hSQ)
      have hl3 := HS3.out.lt
      have qhl3 := HB3.out.top
      have hr2 : (0 : Int) ≤ (r : Int) ∧ (r : Int) ≤ 3 := by omega
      clear hs3 hg3 HS2 HB2 HC2 HO2
      go_wp2_with (at_builtin; go_must (refine wpList_append_lies _ rfl _ _ 51 rfl Q 110 j0 _ 4 32 Tryz.underlying51 hj hy0 hy1 hy2 rfl (by omega) _ (ns.length) (nvals (ns)) rfl ((HO3.out).alloc _) ⟨w3.heap.size, 0, none⟩ 1 1 (nval ⟨2, (r : Int), 0, 0⟩) rfl rfl (World.news_of_block (cs := #[.int .i64 (2), .int .i64 ((r : Int)), .int .i64 (0), .int .i64 (0)]) (t := 110) (fr := (0, 0)) (heap_alloc_new w3 _)) (by simp [nval, Value.oneCell']) (by omega) (by unfold maxLen; omega) (by omega) (by simp; omega) (w3.heap.size + 1) (by simp) ?_); intro gg cp w9 hown9 hgrow hat hlt)
      have HN9 : Hid (w9.ownsRow Q 110 4 (.slice (some ⟨gg, 0, none⟩) (ns.length + 1) cp) (ns.length + 1) (nvals (ns ++ (Tm.var (r : Int)).nodes ns.length))) := hid (by
        rw [← nvals_snoc] at hown9
        exact hown9)
      have HB9 : Hid (Bx S Q w w9) := hid ((HB3.out.alloc _).grown hgrow (fun b e => (own_lt (HO3.out) e).1))
      have HS9 : Hid (Drw.Src w9 S a len cap (pos + 1 + 1 + 1)) := hid (src_grown (src_alloc HS3.out _) hgrow (fun e => by have := (own_lt (HO3.out) e).1; omega))
      clear hown9 hgrow hat hlt
      go_wp2
      go_ret
      exact ⟨Tm.var (r : Int), _, _, hr2, by simp only [Tm.size]; omega, rfl, HN9.out, HS9.out, by omega, HB9.out⟩
set_option maxRecDepth 100000 in
set_option maxHeartbeats 16000000 in
theorem makeBool (B S Q len cap : Nat) (a : Option Addr) (hBS : B ≤ S) (hSQ : S < Q) (hln : len ≤ 2000000) (d : Int) (sz K : Nat) (hd : 1 ≤ d) (hd2 : d ≤ 10) (hsz : sz ≤ 20) (hM : MK B S Q len cap a 1 (d - 1) sz K) (hM2 : 1 < d → MK B S Q len cap a 2 (d - 1) sz K) : MK B S Q len cap a 2 d (2 * sz + 1) (2 * K + 10) := by
  intro ns v pos w hs hc hQ ho hn hp
  obtain ⟨j0, hj, hy0, hy1, hy2⟩ := info_parts infoNode
  obtain ⟨av, cv, rfl⟩ := own4_slice ho
  have HS := hid hs
  have HC := hid hc
  have HO := hid ho
  have HB := hid (Bx.refl S hQ)
  clear hs hc ho
  have HM := hid hM
  have HM2 := hid hM2
  clear hM hM2
  by_cases h1 : 1 < d
  · have HM3 := hid (HM2.out h1)
    go_enter Tryz.func90, Tryz.ntmps90
    go_wp2_with fail
    refine (Drw.next B S len cap (pos) 4 a _ HS.out HC.out hBS hln (by omega) (by omega) (by omega)).mono ?_
    rintro e wa ⟨rk, hrk, rfl, hs2, hg2⟩
    replace HB := hid (HB.out.src hg2)
    replace HC := hid (code_src HC.out hg2 hBS)
    replace HO := hid (own_src HO.out hg2 hSQ)
    replace HS := hid hs2
    clear hs2 hg2
    go_wp2_with fail
    refine (Drw.next B S len cap (pos + 1) 2 a _ HS.out HC.out hBS hln (by omega) (by omega) (by omega)).mono ?_
    rintro e wb ⟨rj, hrj, rfl, hs2, hg2⟩
    replace HB := hid (HB.out.src hg2)
    replace HC := hid (code_src HC.out hg2 hBS)
    replace HO := hid (own_src HO.out hg2 hSQ)
    replace HS := hid hs2
    clear hs2 hg2
    go_wp2_with fail
    refine (Drw.chance B S len cap (pos + 1 + 1) 3 a _ HS.out HC.out hBS hln (by omega) (by omega) (by omega)).mono ?_
    rintro e wc ⟨tc, rfl, hs2, hg2⟩
    replace HB := hid (HB.out.src hg2)
    replace HC := hid (code_src HC.out hg2 hBS)
    replace HO := hid (own_src HO.out hg2 hSQ)
    replace HS := hid hs2
    clear hs2 hg2
    cases tc
    · have hk10 : ((7 + (rj : Int)) == 10) = false := by simp; omega
      go_wp2_with fail
      refine (max0 (d - 1) _ (by omega)).mono ?_
      rintro e wm ⟨rfl, rfl⟩
      go_wp2_with fail
      refine (HM.out ns _ (pos + 1 + 1 + 1) _ HS.out HC.out HB.out.top HO.out (by omega) (by omega)).mono ?_
      rintro e w5 ⟨t1, u1, pos1, ok1, sz1, rfl, ho1, hs1, hp1, hb1⟩
      have hpz1 := size_pos t1
      obtain ⟨a1, c1, rfl⟩ := own4_slice ho1
      have HOK1 := hid ok1
      replace HB := hid (HB.out.trans hb1)
      replace HC := hid (code_bx HC.out hb1 hBS hSQ)
      have hlen1 : (ns ++ t1.nodes ns.length).length = ns.length + t1.size := by rw [List.length_append, nodes_len]
      have HO1 := hid ho1
      replace HS := hid hs1
      have hl5 := HS.out.lt
      have qhl5 := HB.out.top
      clear ok1 ho1 hs1 hb1 HO
      generalize hx1 : ns ++ t1.nodes ns.length = xs1 at *
      have HX1 := hid hx1
      clear hx1
      go_wp2_with fail
      refine (max0 (d - 1) _ (by omega)).mono ?_
      rintro e wm ⟨rfl, rfl⟩
      go_wp2_with fail
      refine (HM.out xs1 _ pos1 _ HS.out HC.out HB.out.top (by rw [hlen1]; exact HO1.out) (by omega) (by omega)).mono ?_
      rintro e w6 ⟨t2, u2, pos2, ok2, sz2, rfl, ho2, hs2, hp2, hb2⟩
      have hpz2 := size_pos t2
      rw [hlen1] at ho2
      obtain ⟨a2, c2, rfl⟩ := own4_slice ho2
      have HOK2 := hid ok2
      replace HB := hid (HB.out.trans hb2)
      have HO2 := hid ho2
      replace HS := hid hs2
      have hl6 := HS.out.lt
      have qhl6 := HB.out.top
      clear ok2 ho2 hs2 hb2 HO1
      have HNN : Hid (ns ++ (Tm.pair (7 + (rj : Int)) t1 t2).nodes ns.length = (xs1 ++ t2.nodes (ns.length + t1.size)) ++ [⟨7 + (rj : Int), 0, ((ns.length + t1.size : Nat) : Int) - 1, ((ns.length + t1.size + t2.size : Nat) : Int) - 1⟩]) := hid (by
        rw [← HX1.out, show ((ns.length + t1.size : Nat) : Int) - 1 = ((ns.length + t1.size - 1 : Nat) : Int) by omega, show ((ns.length + t1.size + t2.size : Nat) : Int) - 1 = ((ns.length + t1.size + t2.size - 1 : Nat) : Int) by omega]
        simp only [Tm.nodes, List.append_assoc])
      have HSZ : Hid (ns.length + (Tm.pair (7 + (rj : Int)) t1 t2).size = ns.length + t1.size + t2.size + 1) := hid (by simp only [Tm.size]; omega)
      go_wp2_with (at_builtin; go_must (refine wpList_append_lies _ rfl _ _ 51 rfl Q 110 j0 _ 4 32 Tryz.underlying51 hj hy0 hy1 hy2 rfl (by omega) _ (ns.length + t1.size + t2.size) (nvals (xs1 ++ t2.nodes (ns.length + t1.size))) rfl ((HO2.out).alloc _) ⟨w6.heap.size, 0, none⟩ 1 1 (nval ⟨7 + (rj : Int), 0, ((ns.length + t1.size : Nat) : Int) - 1, ((ns.length + t1.size + t2.size : Nat) : Int) - 1⟩) rfl rfl (World.news_of_block (cs := #[.int .i64 (7 + (rj : Int)), .int .i64 (0), .int .i64 (((ns.length + t1.size : Nat) : Int) - 1), .int .i64 (((ns.length + t1.size + t2.size : Nat) : Int) - 1)]) (t := 110) (fr := (0, 0)) (heap_alloc_new w6 _)) (by simp [nval, Value.oneCell']) (by omega) (by unfold maxLen; omega) (by omega) (by simp; omega) (w6.heap.size + 1) (by simp) ?_); intro gg cp w9 hown9 hgrow hat hlt)
      have HN9 : Hid (w9.ownsRow Q 110 4 (.slice (some ⟨gg, 0, none⟩) (ns.length + t1.size + t2.size + 1) cp) (ns.length + t1.size + t2.size + 1) (nvals (ns ++ (Tm.pair (7 + (rj : Int)) t1 t2).nodes ns.length))) := hid (by
        rw [← nvals_snoc] at hown9
        exact by rw [HNN.out]; exact hown9)
      have HB9 : Hid (Bx S Q w w9) := hid ((HB.out.alloc _).grown hgrow (fun b e => (own_lt (HO2.out) e).1))
      have HS9 : Hid (Drw.Src w9 S a len cap (pos2)) := hid (src_grown (src_alloc HS.out _) hgrow (fun e => by have := (own_lt (HO2.out) e).1; omega))
      clear hown9 hgrow hat hlt
      go_wp2
      go_ret
      exact ⟨Tm.pair (7 + (rj : Int)) t1 t2, _, _, ⟨⟨by omega, by omega, HOK1.out, HOK2.out⟩, rfl, rfl⟩, by simp only [Tm.size]; omega, rfl, by rw [HSZ.out]; exact HN9.out, HS9.out, by omega, HB9.out⟩
    · skip
      go_wp2_with fail
      refine (Drw.next B S len cap (pos + 1 + 1 + 1) 2 a _ HS.out HC.out hBS hln (by omega) (by omega) (by omega)).mono ?_
      rintro e we ⟨ri, hri, rfl, hs2, hg2⟩
      replace HB := hid (HB.out.src hg2)
      replace HC := hid (code_src HC.out hg2 hBS)
      replace HO := hid (own_src HO.out hg2 hSQ)
      replace HS := hid hs2
      clear hs2 hg2
      by_cases h9 : ri = 0
      · subst h9
        go_wp2_with fail
        refine (max0 (d - 1) _ (by omega)).mono ?_
        rintro e wm ⟨rfl, rfl⟩
        go_wp2_with fail
        refine (HM3.out ns _ (pos + 1 + 1 + 1 + 1) _ HS.out HC.out HB.out.top HO.out (by omega) (by omega)).mono ?_
        rintro e w5 ⟨t1, u1, pos1, ok1, sz1, rfl, ho1, hs1, hp1, hb1⟩
        have hpz1 := size_pos t1
        obtain ⟨a1, c1, rfl⟩ := own4_slice ho1
        have HOK1 := hid ok1
        replace HB := hid (HB.out.trans hb1)
        replace HC := hid (code_bx HC.out hb1 hBS hSQ)
        have hlen1 : (ns ++ t1.nodes ns.length).length = ns.length + t1.size := by rw [List.length_append, nodes_len]
        have HO1 := hid ho1
        replace HS := hid hs1
        have hl5 := HS.out.lt
        have qhl5 := HB.out.top
        clear ok1 ho1 hs1 hb1 HO
        generalize hx1 : ns ++ t1.nodes ns.length = xs1 at *
        have HX1 := hid hx1
        clear hx1
        go_wp2_with fail
        refine (max0 (d - 1) _ (by omega)).mono ?_
        rintro e wm ⟨rfl, rfl⟩
        go_wp2_with fail
        refine (HM3.out xs1 _ pos1 _ HS.out HC.out HB.out.top (by rw [hlen1]; exact HO1.out) (by omega) (by omega)).mono ?_
        rintro e w6 ⟨t2, u2, pos2, ok2, sz2, rfl, ho2, hs2, hp2, hb2⟩
        have hpz2 := size_pos t2
        rw [hlen1] at ho2
        obtain ⟨a2, c2, rfl⟩ := own4_slice ho2
        have HOK2 := hid ok2
        replace HB := hid (HB.out.trans hb2)
        have HO2 := hid ho2
        replace HS := hid hs2
        have hl6 := HS.out.lt
        have qhl6 := HB.out.top
        clear ok2 ho2 hs2 hb2 HO1
        have HNN : Hid (ns ++ (Tm.pair (9) t1 t2).nodes ns.length = (xs1 ++ t2.nodes (ns.length + t1.size)) ++ [⟨9, 0, ((ns.length + t1.size : Nat) : Int) - 1, ((ns.length + t1.size + t2.size : Nat) : Int) - 1⟩]) := hid (by
          rw [← HX1.out, show ((ns.length + t1.size : Nat) : Int) - 1 = ((ns.length + t1.size - 1 : Nat) : Int) by omega, show ((ns.length + t1.size + t2.size : Nat) : Int) - 1 = ((ns.length + t1.size + t2.size - 1 : Nat) : Int) by omega]
          simp only [Tm.nodes, List.append_assoc])
        have HSZ : Hid (ns.length + (Tm.pair (9) t1 t2).size = ns.length + t1.size + t2.size + 1) := hid (by simp only [Tm.size]; omega)
        go_wp2_with (at_builtin; go_must (refine wpList_append_lies _ rfl _ _ 51 rfl Q 110 j0 _ 4 32 Tryz.underlying51 hj hy0 hy1 hy2 rfl (by omega) _ (ns.length + t1.size + t2.size) (nvals (xs1 ++ t2.nodes (ns.length + t1.size))) rfl ((HO2.out).alloc _) ⟨w6.heap.size, 0, none⟩ 1 1 (nval ⟨9, 0, ((ns.length + t1.size : Nat) : Int) - 1, ((ns.length + t1.size + t2.size : Nat) : Int) - 1⟩) rfl rfl (World.news_of_block (cs := #[.int .i64 (9), .int .i64 (0), .int .i64 (((ns.length + t1.size : Nat) : Int) - 1), .int .i64 (((ns.length + t1.size + t2.size : Nat) : Int) - 1)]) (t := 110) (fr := (0, 0)) (heap_alloc_new w6 _)) (by simp [nval, Value.oneCell']) (by omega) (by unfold maxLen; omega) (by omega) (by simp; omega) (w6.heap.size + 1) (by simp) ?_); intro gg cp w9 hown9 hgrow hat hlt)
        have HN9 : Hid (w9.ownsRow Q 110 4 (.slice (some ⟨gg, 0, none⟩) (ns.length + t1.size + t2.size + 1) cp) (ns.length + t1.size + t2.size + 1) (nvals (ns ++ (Tm.pair (9) t1 t2).nodes ns.length))) := hid (by
          rw [← nvals_snoc] at hown9
          exact by rw [HNN.out]; exact hown9)
        have HB9 : Hid (Bx S Q w w9) := hid ((HB.out.alloc _).grown hgrow (fun b e => (own_lt (HO2.out) e).1))
        have HS9 : Hid (Drw.Src w9 S a len cap (pos2)) := hid (src_grown (src_alloc HS.out _) hgrow (fun e => by have := (own_lt (HO2.out) e).1; omega))
        clear hown9 hgrow hat hlt
        go_wp2
        go_ret
        exact ⟨Tm.pair (9) t1 t2, _, _, ⟨⟨by omega, by omega, HOK1.out, HOK2.out⟩, rfl, rfl⟩, by simp only [Tm.size]; omega, rfl, by rw [HSZ.out]; exact HN9.out, HS9.out, by omega, HB9.out⟩
      · obtain rfl : ri = 1 := by omega
        go_wp2_with fail
        refine (max0 (d - 1) _ (by omega)).mono ?_
        rintro e wm ⟨rfl, rfl⟩
        go_wp2_with fail
        refine (HM3.out ns _ (pos + 1 + 1 + 1 + 1) _ HS.out HC.out HB.out.top HO.out (by omega) (by omega)).mono ?_
        rintro e w5 ⟨t1, u1, pos1, ok1, sz1, rfl, ho1, hs1, hp1, hb1⟩
        have hpz1 := size_pos t1
        obtain ⟨a1, c1, rfl⟩ := own4_slice ho1
        have HOK1 := hid ok1
        replace HB := hid (HB.out.trans hb1)
        replace HC := hid (code_bx HC.out hb1 hBS hSQ)
        have hlen1 : (ns ++ t1.nodes ns.length).length = ns.length + t1.size := by rw [List.length_append, nodes_len]
        have HO1 := hid ho1
        replace HS := hid hs1
        have hl5 := HS.out.lt
        have qhl5 := HB.out.top
        clear ok1 ho1 hs1 hb1 HO
        have HNN : Hid ((Tm.not t1).nodes ns.length = t1.nodes ns.length ++ [⟨10, 0, ((ns.length + t1.size - 1 : Nat) : Int), 0⟩]) := hid rfl
        have HSZ : Hid (ns.length + (Tm.not t1).size = ns.length + t1.size + 1) := hid rfl
        have HI : Hid (((ns.length + t1.size - 1 : Nat) : Int) = ((ns.length + t1.size : Nat) : Int) - 1) := hid (by omega)
        go_wp2_with (at_builtin; go_must (refine wpList_append_lies _ rfl _ _ 51 rfl Q 110 j0 _ 4 32 Tryz.underlying51 hj hy0 hy1 hy2 rfl (by omega) _ (ns.length + t1.size) (nvals (ns ++ t1.nodes ns.length)) rfl ((HO1.out).alloc _) ⟨w5.heap.size, 0, none⟩ 1 1 (nval ⟨10, 0, ((ns.length + t1.size : Nat) : Int) - 1, 0⟩) rfl rfl (World.news_of_block (cs := #[.int .i64 (10), .int .i64 (0), .int .i64 (((ns.length + t1.size : Nat) : Int) - 1), .int .i64 (0)]) (t := 110) (fr := (0, 0)) (heap_alloc_new w5 _)) (by simp [nval, Value.oneCell']) (by omega) (by unfold maxLen; omega) (by omega) (by simp; omega) (w5.heap.size + 1) (by simp) ?_); intro gg cp w9 hown9 hgrow hat hlt)
        have HN9 : Hid (w9.ownsRow Q 110 4 (.slice (some ⟨gg, 0, none⟩) (ns.length + t1.size + 1) cp) (ns.length + t1.size + 1) (nvals (ns ++ (Tm.not t1).nodes ns.length))) := hid (by
          rw [← nvals_snoc] at hown9
          exact by rw [HNN.out, HI.out, ← List.append_assoc]; exact hown9)
        have HB9 : Hid (Bx S Q w w9) := hid ((HB.out.alloc _).grown hgrow (fun b e => (own_lt (HO1.out) e).1))
        have HS9 : Hid (Drw.Src w9 S a len cap (pos1)) := hid (src_grown (src_alloc HS.out _) hgrow (fun e => by have := (own_lt (HO1.out) e).1; omega))
        clear hown9 hgrow hat hlt
        go_wp2
        go_ret
        exact ⟨Tm.not t1, _, _, ⟨HOK1.out, rfl, rfl⟩, by simp only [Tm.size]; omega, rfl, by rw [HSZ.out]; exact HN9.out, HS9.out, by omega, HB9.out⟩
  · have h1' : decide (1 < d) = false := decide_eq_false h1
    go_enter Tryz.func90, Tryz.ntmps90
    go_wp2_with fail
    refine (Drw.next B S len cap (pos) 4 a _ HS.out HC.out hBS hln (by omega) (by omega) (by omega)).mono ?_
    rintro e wa ⟨rk, hrk, rfl, hs2, hg2⟩
    replace HB := hid (HB.out.src hg2)
    replace HC := hid (code_src HC.out hg2 hBS)
    replace HO := hid (own_src HO.out hg2 hSQ)
    replace HS := hid hs2
    clear hs2 hg2
    go_wp2_with fail
    refine (Drw.next B S len cap (pos + 1) 2 a _ HS.out HC.out hBS hln (by omega) (by omega) (by omega)).mono ?_
    rintro e wb ⟨rj, hrj, rfl, hs2, hg2⟩
    replace HB := hid (HB.out.src hg2)
    replace HC := hid (code_src HC.out hg2 hBS)
    replace HO := hid (own_src HO.out hg2 hSQ)
    replace HS := hid hs2
    clear hs2 hg2
    have hk10 : ((7 + (rj : Int)) == 10) = false := by simp; omega
    go_wp2_with fail
    refine (max0 (d - 1) _ (by omega)).mono ?_
    rintro e wm ⟨rfl, rfl⟩
    go_wp2_with fail
    refine (HM.out ns _ (pos + 1 + 1) _ HS.out HC.out HB.out.top HO.out (by omega) (by omega)).mono ?_
    rintro e w5 ⟨t1, u1, pos1, ok1, sz1, rfl, ho1, hs1, hp1, hb1⟩
    have hpz1 := size_pos t1
    obtain ⟨a1, c1, rfl⟩ := own4_slice ho1
    have HOK1 := hid ok1
    replace HB := hid (HB.out.trans hb1)
    replace HC := hid (code_bx HC.out hb1 hBS hSQ)
    have hlen1 : (ns ++ t1.nodes ns.length).length = ns.length + t1.size := by rw [List.length_append, nodes_len]
    have HO1 := hid ho1
    replace HS := hid hs1
    have hl5 := HS.out.lt
    have qhl5 := HB.out.top
    clear ok1 ho1 hs1 hb1 HO
    generalize hx1 : ns ++ t1.nodes ns.length = xs1 at *
    have HX1 := hid hx1
    clear hx1
    go_wp2_with fail
    refine (max0 (d - 1) _ (by omega)).mono ?_
    rintro e wm ⟨rfl, rfl⟩
    go_wp2_with fail
    refine (HM.out xs1 _ pos1 _ HS.out HC.out HB.out.top (by rw [hlen1]; exact HO1.out) (by omega) (by omega)).mono ?_
    rintro e w6 ⟨t2, u2, pos2, ok2, sz2, rfl, ho2, hs2, hp2, hb2⟩
    have hpz2 := size_pos t2
    rw [hlen1] at ho2
    obtain ⟨a2, c2, rfl⟩ := own4_slice ho2
    have HOK2 := hid ok2
    replace HB := hid (HB.out.trans hb2)
    have HO2 := hid ho2
    replace HS := hid hs2
    have hl6 := HS.out.lt
    have qhl6 := HB.out.top
    clear ok2 ho2 hs2 hb2 HO1
    have HNN : Hid (ns ++ (Tm.pair (7 + (rj : Int)) t1 t2).nodes ns.length = (xs1 ++ t2.nodes (ns.length + t1.size)) ++ [⟨7 + (rj : Int), 0, ((ns.length + t1.size : Nat) : Int) - 1, ((ns.length + t1.size + t2.size : Nat) : Int) - 1⟩]) := hid (by
      rw [← HX1.out, show ((ns.length + t1.size : Nat) : Int) - 1 = ((ns.length + t1.size - 1 : Nat) : Int) by omega, show ((ns.length + t1.size + t2.size : Nat) : Int) - 1 = ((ns.length + t1.size + t2.size - 1 : Nat) : Int) by omega]
      simp only [Tm.nodes, List.append_assoc])
    have HSZ : Hid (ns.length + (Tm.pair (7 + (rj : Int)) t1 t2).size = ns.length + t1.size + t2.size + 1) := hid (by simp only [Tm.size]; omega)
    go_wp2_with (at_builtin; go_must (refine wpList_append_lies _ rfl _ _ 51 rfl Q 110 j0 _ 4 32 Tryz.underlying51 hj hy0 hy1 hy2 rfl (by omega) _ (ns.length + t1.size + t2.size) (nvals (xs1 ++ t2.nodes (ns.length + t1.size))) rfl ((HO2.out).alloc _) ⟨w6.heap.size, 0, none⟩ 1 1 (nval ⟨7 + (rj : Int), 0, ((ns.length + t1.size : Nat) : Int) - 1, ((ns.length + t1.size + t2.size : Nat) : Int) - 1⟩) rfl rfl (World.news_of_block (cs := #[.int .i64 (7 + (rj : Int)), .int .i64 (0), .int .i64 (((ns.length + t1.size : Nat) : Int) - 1), .int .i64 (((ns.length + t1.size + t2.size : Nat) : Int) - 1)]) (t := 110) (fr := (0, 0)) (heap_alloc_new w6 _)) (by simp [nval, Value.oneCell']) (by omega) (by unfold maxLen; omega) (by omega) (by simp; omega) (w6.heap.size + 1) (by simp) ?_); intro gg cp w9 hown9 hgrow hat hlt)
    have HN9 : Hid (w9.ownsRow Q 110 4 (.slice (some ⟨gg, 0, none⟩) (ns.length + t1.size + t2.size + 1) cp) (ns.length + t1.size + t2.size + 1) (nvals (ns ++ (Tm.pair (7 + (rj : Int)) t1 t2).nodes ns.length))) := hid (by
      rw [← nvals_snoc] at hown9
      exact by rw [HNN.out]; exact hown9)
    have HB9 : Hid (Bx S Q w w9) := hid ((HB.out.alloc _).grown hgrow (fun b e => (own_lt (HO2.out) e).1))
    have HS9 : Hid (Drw.Src w9 S a len cap (pos2)) := hid (src_grown (src_alloc HS.out _) hgrow (fun e => by have := (own_lt (HO2.out) e).1; omega))
    clear hown9 hgrow hat hlt
    go_wp2
    go_ret
    exact ⟨Tm.pair (7 + (rj : Int)) t1 t2, _, _, ⟨⟨by omega, by omega, HOK1.out, HOK2.out⟩, rfl, rfl⟩, by simp only [Tm.size]; omega, rfl, by rw [HSZ.out]; exact HN9.out, HS9.out, by omega, HB9.out⟩
end DqE
end Go.Proofs.YtnbmpofmieagfaaGreatDoor
