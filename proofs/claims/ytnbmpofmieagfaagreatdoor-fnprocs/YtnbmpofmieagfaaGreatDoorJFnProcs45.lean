/- What the specification draws of expressions: l3Bent, DrawExprText. -/
import Derived.Test.YtnbmpofmieagfaaGreatDoorJFnProcs12
namespace Go.Proofs.YtnbmpofmieagfaaGreatDoor
open Go.RowKit
set_option linter.unusedVariables false
namespace DqE
open Ex
open Nd (NodeD)
theorem nvals_int (l : List NodeD) : ∀ v ∈ nvals l, ∃ z : Int, v = .int .i64 z := by
  intro v hv
  simp only [nvals, List.mem_flatMap, nval, List.mem_cons, List.not_mem_nil, or_false] at hv
  obtain ⟨n, _, h | h | h | h⟩ := hv
  all_goals exact ⟨_, h⟩
theorem at_any {w : World} {B g n m cap : Nat} {f : Nat → Value} (h : w.rowIs g 110 m f) (hnm : n * 4 ≤ m) (hf : ∀ j, j < n * 4 → ∃ z : Int, f j = .int .i64 z) (hc : n ≤ cap) (hx : cap ≤ maxLen) (hB : B ≤ g) : ∃ ns : List NodeD, ns.length = n ∧ Nd.At w B (.slice (some ⟨g, 0, none⟩) n cap) ns := by
  refine ⟨(List.range n).map fun i => ⟨intOf (f (i * 4)), intOf (f (i * 4 + 1)), intOf (f (i * 4 + 2)), intOf (f (i * 4 + 3))⟩, by simp, some ⟨g, 0, none⟩, cap, by simp, by simpa using hc, hx, .inr ⟨g, 0, rfl, hB, h.lt, fun i hi => ?_⟩⟩
  have hin : i < n := by simpa using hi
  have c0 := h.cell (i := i * 4) (by omega)
  have c1 := h.cell (i := i * 4 + 1) (by omega)
  have c2 := h.cell (i := i * 4 + 2) (by omega)
  have c3 := h.cell (i := i * 4 + 3) (by omega)
  obtain ⟨z0, e0⟩ := hf (i * 4) (by omega)
  obtain ⟨z1, e1⟩ := hf (i * 4 + 1) (by omega)
  obtain ⟨z2, e2⟩ := hf (i * 4 + 2) (by omega)
  obtain ⟨z3, e3⟩ := hf (i * 4 + 3) (by omega)
  rw [e0] at c0
  rw [e1] at c1
  rw [e2] at c2
  rw [e3] at c3
  simp only [List.getElem_map, List.getElem_range, Nat.zero_add, e0, e1, e2, e3, intOf]
  exact ⟨c0, c1, c2, c3⟩
theorem row_own {w : World} {B n : Nat} {v : Value} {ns : List NodeD} (h : w.ownsRow B 110 4 v n (nvals ns)) (hn : 0 < n) : ∃ g cap f, v = .slice (some ⟨g, 0, none⟩) n cap ∧ B ≤ g ∧ n ≤ cap ∧ cap ≤ maxLen ∧ w.rowIs g 110 (cap * 4) f ∧ ∀ j, j < n * 4 → ∃ z : Int, f j = .int .i64 z := by
  obtain ⟨hl, ⟨rfl, h0⟩ | ⟨g, cap, cur, rfl, hbg, hg, hle, hm, hs, ht⟩⟩ := h
  · omega
  · refine ⟨g, cap, fun i => cur.getD i undef, rfl, hbg, hle, hm, ⟨cur, hg, hs, fun i hi => by simp [Array.getD, hs, hi]⟩, fun j hj => ?_⟩
    have hj2 : j < (nvals ns).length := by omega
    obtain ⟨z, hz⟩ := nvals_int ns _ (List.getElem_mem hj2)
    have h2 := congrArg (·[j]?) ht
    simp only [List.getElem?_take, hj, if_true, List.getElem?_eq_getElem hj2, hz] at h2
    have h3 : cur[j]? = some (.int .i64 z) := by simpa using h2
    refine ⟨z, ?_⟩
    simp only [Array.getD_eq_getD_getElem?, h3]
    rfl
theorem set_int {f : Nat → Value} {m i : Nat} {z : Int} (hf : ∀ j, j < m → ∃ z : Int, f j = .int .i64 z) : ∀ j, j < m → ∃ y : Int, (if j = i then .int .i64 z else f j) = .int .i64 y := by
  intro j hj
  by_cases e : j = i
  · exact ⟨z, by rw [if_pos e]⟩
  · rw [if_neg e]; exact hf j hj

theorem bent0 {w : World} : ∀ (i : Nat) (z : Int), ([0, 11, 1, 9, 10] : List Int)[i]? = some z → (w.alloc (.cells #[.int .i64 0, .int .i64 11, .int .i64 1, .int .i64 9, .int .i64 10] 2)).cell? ⟨w.heap.size, i, none⟩ = some (.int .i64 z)
  | 0, z, h => by cases h; go_simp
  | 1, z, h => by cases h; go_simp
  | 2, z, h => by cases h; go_simp
  | 3, z, h => by cases h; go_simp
  | 4, z, h => by cases h; go_simp
  | i + 5, z, h => by simp at h
theorem bent1 {w : World} : ∀ (i : Nat) (z : Int), ([-1, 4, 10000] : List Int)[i]? = some z → (w.alloc (.cells #[.int .i64 (-1), .int .i64 4, .int .i64 10000] 2)).cell? ⟨w.heap.size, i, none⟩ = some (.int .i64 z)
  | 0, z, h => by cases h; go_simp
  | 1, z, h => by cases h; go_simp
  | 2, z, h => by cases h; go_simp
  | i + 3, z, h => by simp at h
theorem bent2 {w : World} : ∀ (i : Nat) (z : Int), ([0, 1, 9, -1] : List Int)[i]? = some z → (w.alloc (.cells #[.int .i64 0, .int .i64 1, .int .i64 9, .int .i64 (-1)] 2)).cell? ⟨w.heap.size, i, none⟩ = some (.int .i64 z)
  | 0, z, h => by cases h; go_simp
  | 1, z, h => by cases h; go_simp
  | 2, z, h => by cases h; go_simp
  | 3, z, h => by cases h; go_simp
  | i + 4, z, h => by simp at h
theorem bent3 {w : World} : ∀ (i : Nat) (z : Int), ([0, 1, 9] : List Int)[i]? = some z → (w.alloc (.cells #[.int .i64 0, .int .i64 1, .int .i64 9] 2)).cell? ⟨w.heap.size, i, none⟩ = some (.int .i64 z)
  | 0, z, h => by cases h; go_simp
  | 1, z, h => by cases h; go_simp
  | 2, z, h => by cases h; go_simp
  | i + 3, z, h => by simp at h
def bentPost (S Q len cap pos : Nat) (a : Option Addr) (w : World) (e : Ending) (w' : World) : Prop := ∃ (ns : List NodeD) (u : Value), ns.length ≤ 17 ∧ e = .returned u ∧ Nd.At w' Q u ns ∧ Bx S Q w w' ∧ ∃ pos', Drw.Src w' S a len cap pos' ∧ pos' ≤ pos + 110
theorem src_other {w : World} {S len cap pos g i : Nat} {a : Option Addr} {v : Value} (h : Drw.Src w S a len cap pos) (hne : S ≠ g) : Drw.Src (w.setCell ⟨g, i, none⟩ v) S a len cap pos := (Below.heap_setCell _ _ _ _ (by dsimp only; omega)).trans h
set_option maxRecDepth 100000 in
set_option maxHeartbeats 16000000 in
theorem bent (B S Q len cap pos : Nat) (a : Option Addr) (w : World) (hBS : B ≤ S) (hSQ : S < Q) (hQ : Q ≤ w.heap.size) (hln : len ≤ 2000000) (hs : Drw.Src w S a len cap pos) (hc : Drw.CodeAt B w a len) (hp : pos ≤ 800000) :
    Calls Tryz.prog 41 #[.pointer (some ⟨S, 0, none⟩)] w (bentPost S Q len cap pos a w) := by
  obtain ⟨j0, hj, hy0, hy1, hy2⟩ := info_parts infoNode
  have HS := hid hs
  have HC := hid hc
  have HB := hid (Bx.refl S hQ)
  unfold bentPost
  clear hs hc
  go_enter Tryz.func41, Tryz.ntmps41
  go_wp2_with fail
  refine (Drw.next B S len cap pos 2 a _ HS.out HC.out hBS hln (by omega) (by omega) (by omega)).mono ?_
  rintro e w1 ⟨rt, hrt, rfl, hs2, hg2⟩
  replace HB := hid (HB.out.src hg2)
  replace HC := hid (code_src HC.out hg2 hBS)
  replace HS := hid hs2
  clear hs2 hg2
  go_wp2_with fail
  refine (draw B S Q len cap (pos + 1) a (1 + (rt : Int)) _ hBS hSQ HB.out.top hln (by omega) HS.out HC.out (by omega)).mono ?_
  rintro e w2 ⟨tm, u, pos', hok, hsz, rfl, ho, hs2, hp2, hb2⟩
  have hpz := size_pos tm
  obtain ⟨g, cu, f, rfl, hgB, hcu, hcm, hR, hF⟩ := row_own ho hpz
  have HO := hid ho
  replace HB := hid (HB.out.trans hb2)
  replace HC := hid (code_bx HC.out hb2 hBS hSQ)
  replace HS := hid hs2
  have HR := hid hR
  have HF := hid hF
  clear hok ho hs2 hb2 hR hF
  go_wp2_with fail
  refine (Drw.next B S len cap pos' tm.size a _ HS.out HC.out hBS hln (by omega) (by omega) (by omega)).mono ?_
  rintro e w3 ⟨i, hi, rfl, hs2, hg2⟩
  replace HB := hid (HB.out.src hg2)
  replace HC := hid (code_src HC.out hg2 hBS)
  replace HO := hid (own_src HO.out hg2 hSQ)
  replace HR := hid (HR.out.of_block (hg2.block g HR.out.lt (fun e => by cases e; omega)))
  replace HS := hid hs2
  clear hs2 hg2
  go_wp2_with fail
  refine (Drw.next B S len cap (pos' + 1) 12 a _ HS.out HC.out hBS hln (by omega) (by omega) (by omega)).mono ?_
  rintro e w4 ⟨r, hr, rfl, hs2, hg2⟩
  replace HB := hid (HB.out.src hg2)
  replace HC := hid (code_src HC.out hg2 hBS)
  replace HO := hid (own_src HO.out hg2 hSQ)
  replace HR := hid (HR.out.of_block (hg2.block g HR.out.lt (fun e => by cases e; omega)))
  replace HS := hid hs2
  have hl4 := HS.out.lt
  have qhl4 := HB.out.top
  have q1 : (i : Int) < (tm.size : Int) := by omega
  clear hs2 hg2
  by_cases r0 : r = 0
  · subst r0
    have HSa := hid (src_alloc HS.out (.cells #[.int .i64 0, .int .i64 11, .int .i64 1, .int .i64 9, .int .i64 10] 2))
    have HBa : Hid (Bx S Q w (w4.alloc (.cells #[.int .i64 0, .int .i64 11, .int .i64 1, .int .i64 9, .int .i64 10] 2))) := hid (HB.out.alloc _)
    have HCa := hid (code_alloc HC.out (.cells #[.int .i64 0, .int .i64 11, .int .i64 1, .int .i64 9, .int .i64 10] 2))
    have HRa := hid (HR.out.alloc (.cells #[.int .i64 0, .int .i64 11, .int .i64 1, .int .i64 9, .int .i64 10] 2))
    go_wp2_with fail
    refine (Drw.pick B S len cap (pos' + 1 + 1) w4.heap.size 5 [0, 11, 1, 9, 10] a _ HSa.out HCa.out hBS hln (by omega) rfl (by omega) (by omega) (by omega) (by simp) bent0).mono ?_
    rintro e w5 ⟨z, hz, rfl, hs5, hg5⟩
    have HB5 := hid (HBa.out.src hg5)
    have hR5 := HRa.out.of_block (hg5.block g HRa.out.lt (fun e => by cases e; omega))
    have d0 := hR5.cell (i := i * 4) (by omega)
    have f0 := hR5.frozen (i * 4)
    obtain ⟨ns9, hn9, ha9⟩ := at_any (B := Q) (hR5.set (i * 4) (.int .i64 z)) (n := tm.size) (cap := cu) (by omega) (set_int HF.out) hcu hcm hgB
    have HA9 := hid ha9
    have HS9 := hid hs5
    clear hz hs5 hg5 hR5 ha9 HSa HBa HCa HRa HF HR HS HC HO
    go_wp2
    go_ret
    exact ⟨ns9, _, by omega, rfl, HA9.out, HB5.out.setCell hgB _, _, src_other HS9.out (by omega), by omega⟩
  have s0 : ((r : Int) == 0) = false := by simp; omega
  by_cases r1 : r = 1
  · subst r1
    have HSa := hid (src_alloc HS.out (.cells #[.int .i64 (-1), .int .i64 4, .int .i64 10000] 2))
    have HBa : Hid (Bx S Q w (w4.alloc (.cells #[.int .i64 (-1), .int .i64 4, .int .i64 10000] 2))) := hid (HB.out.alloc _)
    have HCa := hid (code_alloc HC.out (.cells #[.int .i64 (-1), .int .i64 4, .int .i64 10000] 2))
    have HRa := hid (HR.out.alloc (.cells #[.int .i64 (-1), .int .i64 4, .int .i64 10000] 2))
    go_wp2_with fail
    refine (Drw.pick B S len cap (pos' + 1 + 1) w4.heap.size 3 [-1, 4, 10000] a _ HSa.out HCa.out hBS hln (by omega) rfl (by omega) (by omega) (by omega) (by simp) bent1).mono ?_
    rintro e w5 ⟨z, hz, rfl, hs5, hg5⟩
    have HB5 := hid (HBa.out.src hg5)
    have hR5 := HRa.out.of_block (hg5.block g HRa.out.lt (fun e => by cases e; omega))
    have d0 := hR5.cell (i := i * 4 + 1) (by omega)
    have f0 := hR5.frozen (i * 4 + 1)
    obtain ⟨ns9, hn9, ha9⟩ := at_any (B := Q) (hR5.set (i * 4 + 1) (.int .i64 z)) (n := tm.size) (cap := cu) (by omega) (set_int HF.out) hcu hcm hgB
    have HA9 := hid ha9
    have HS9 := hid hs5
    clear hz hs5 hg5 hR5 ha9 HSa HBa HCa HRa HF HR HS HC HO
    go_wp2
    go_ret
    exact ⟨ns9, _, by omega, rfl, HA9.out, HB5.out.setCell hgB _, _, src_other HS9.out (by omega), by omega⟩
  have s1 : ((r : Int) == 1) = false := by simp; omega
  by_cases r2 : r = 2
  · subst r2
    have HSa := hid (src_alloc HS.out (.cells #[.int .i64 0, .int .i64 1, .int .i64 9, .int .i64 (-1)] 2))
    have HBa : Hid (Bx S Q w (w4.alloc (.cells #[.int .i64 0, .int .i64 1, .int .i64 9, .int .i64 (-1)] 2))) := hid (HB.out.alloc _)
    have HCa := hid (code_alloc HC.out (.cells #[.int .i64 0, .int .i64 1, .int .i64 9, .int .i64 (-1)] 2))
    have HRa := hid (HR.out.alloc (.cells #[.int .i64 0, .int .i64 1, .int .i64 9, .int .i64 (-1)] 2))
    go_wp2_with fail
    refine (Drw.pick B S len cap (pos' + 1 + 1) w4.heap.size 4 [0, 1, 9, -1] a _ HSa.out HCa.out hBS hln (by omega) rfl (by omega) (by omega) (by omega) (by simp) bent2).mono ?_
    rintro e w5 ⟨z, hz, rfl, hs5, hg5⟩
    have HB5 := hid (HBa.out.src hg5)
    have hR5 := HRa.out.of_block (hg5.block g HRa.out.lt (fun e => by cases e; omega))
    have d0 := hR5.cell (i := i * 4 + 2) (by omega)
    have f0 := hR5.frozen (i * 4 + 2)
    obtain ⟨ns9, hn9, ha9⟩ := at_any (B := Q) (hR5.set (i * 4 + 2) (.int .i64 z)) (n := tm.size) (cap := cu) (by omega) (set_int HF.out) hcu hcm hgB
    have HA9 := hid ha9
    have HS9 := hid hs5
    clear hz hs5 hg5 hR5 ha9 HSa HBa HCa HRa HF HR HS HC HO
    go_wp2
    go_ret
    exact ⟨ns9, _, by omega, rfl, HA9.out, HB5.out.setCell hgB _, _, src_other HS9.out (by omega), by omega⟩
  have s2 : ((r : Int) == 2) = false := by simp; omega
  by_cases r3 : r = 3
  · subst r3
    have HSa := hid (src_alloc HS.out (.cells #[.int .i64 0, .int .i64 1, .int .i64 9] 2))
    have HBa : Hid (Bx S Q w (w4.alloc (.cells #[.int .i64 0, .int .i64 1, .int .i64 9] 2))) := hid (HB.out.alloc _)
    have HCa := hid (code_alloc HC.out (.cells #[.int .i64 0, .int .i64 1, .int .i64 9] 2))
    have HRa := hid (HR.out.alloc (.cells #[.int .i64 0, .int .i64 1, .int .i64 9] 2))
    go_wp2_with fail
    refine (Drw.pick B S len cap (pos' + 1 + 1) w4.heap.size 3 [0, 1, 9] a _ HSa.out HCa.out hBS hln (by omega) rfl (by omega) (by omega) (by omega) (by simp) bent3).mono ?_
    rintro e w5 ⟨z, hz, rfl, hs5, hg5⟩
    have HB5 := hid (HBa.out.src hg5)
    have hR5 := HRa.out.of_block (hg5.block g HRa.out.lt (fun e => by cases e; omega))
    have d0 := hR5.cell (i := i * 4 + 3) (by omega)
    have f0 := hR5.frozen (i * 4 + 3)
    obtain ⟨ns9, hn9, ha9⟩ := at_any (B := Q) (hR5.set (i * 4 + 3) (.int .i64 z)) (n := tm.size) (cap := cu) (by omega) (set_int HF.out) hcu hcm hgB
    have HA9 := hid ha9
    have HS9 := hid hs5
    clear hz hs5 hg5 hR5 ha9 HSa HBa HCa HRa HF HR HS HC HO
    go_wp2
    go_ret
    exact ⟨ns9, _, by omega, rfl, HA9.out, HB5.out.setCell hgB _, _, src_other HS9.out (by omega), by omega⟩
  have s3 : ((r : Int) == 3) = false := by simp; omega
  by_cases r4 : r = 4
  · subst r4
    have hmk : ∀ w : World, (Instr.makeSlice 51 (.int .i64 17) (.int .i64 17)).run Tryz.prog w = .ok (.slice (some ⟨w.heap.size, 0, none⟩) 17 17) (w.alloc (.cells (madeCells (Value.agg #[.int .i64 0, .int .i64 0, .int .i64 0, .int .i64 0]).cells 68) 110)) := fun w => Nd.make_row (P := Tryz.prog) Tryz.underlying51 Nd.infoOne 17 (by omega) (by omega) w
    have hmc : madeCells (Value.agg #[.int .i64 0, .int .i64 0, .int .i64 0, .int .i64 0]).cells 68 = Array.replicate 68 (.int .i64 0) := by kernel_rfl
    have HA9 : Hid (∃ ns : List NodeD, ns.length = 17 ∧ Nd.At (w4.alloc (.cells (madeCells (Value.agg #[.int .i64 0, .int .i64 0, .int .i64 0, .int .i64 0]).cells 68) 110)) Q (.slice (some ⟨w4.heap.size, 0, none⟩) 17 17) ns) := hid (by
      rw [hmc]
      have h := World.rowIs_alloc w4 (Array.replicate 68 (.int .i64 0)) 110 (fun _ => .int .i64 0) (fun i hi => by simp at hi; simp [hi])
      rw [Array.size_replicate] at h
      exact at_any h (by omega) (fun j hj => ⟨0, rfl⟩) (by omega) (by unfold maxLen; omega) (by omega))
    have HB9 := hid (HB.out.alloc (.cells (madeCells (Value.agg #[.int .i64 0, .int .i64 0, .int .i64 0, .int .i64 0]).cells 68) 110))
    have HS9 := hid (src_alloc HS.out (.cells (madeCells (Value.agg #[.int .i64 0, .int .i64 0, .int .i64 0, .int .i64 0]).cells 68) 110))
    clear hmc HF HR HS HC HO
    go_wp2
    go_ret
    obtain ⟨ns9, hn9, ha9⟩ := HA9.out
    exact ⟨ns9, _, by omega, rfl, ha9, HB9.out, _, HS9.out, by omega⟩
  have s4 : ((r : Int) == 4) = false := by simp; omega
  by_cases r5 : r = 5
  · subst r5
    go_wp2_with (at_builtin; go_must (refine wpList_append_lies _ rfl _ _ 51 rfl Q 110 j0 _ 4 32 Tryz.underlying51 hj hy0 hy1 hy2 rfl (by omega) _ tm.size (nvals (tm.nodes 0)) rfl (HO.out.alloc _) ⟨w4.heap.size, 0, none⟩ 1 1 (nval ⟨1, 0, 0, 0⟩) rfl rfl (World.news_of_block (cs := #[.int .i64 1, .int .i64 0, .int .i64 0, .int .i64 0]) (t := 110) (fr := (0, 0)) (heap_alloc_new w4 _)) (by simp [nval, Value.oneCell']) (by omega) (by unfold maxLen; omega) (by omega) (by simp; omega) (w4.heap.size + 1) (by simp) ?_); intro gg cp w9 hown9 hgrow hat hlt)
    have HA9 : Hid (Nd.At w9 Q (.slice (some ⟨gg, 0, none⟩) (tm.size + 1) cp) (tm.nodes 0 ++ [⟨1, 0, 0, 0⟩])) := hid (at_of_owns (by
      rw [List.length_append, nodes_len, nvals_snoc]
      exact hown9))
    have HB9 : Hid (Bx S Q w w9) := hid ((HB.out.alloc _).grown hgrow (fun b e => (own_lt HO.out e).1))
    have HS9 := hid (src_grown (src_alloc HS.out (.cells #[.int .i64 1, .int .i64 0, .int .i64 0, .int .i64 0] 110)) hgrow (fun e => by have := (own_lt HO.out e).1; omega))
    clear hown9 hgrow hat hlt HF HR HS HC HO
    go_wp2
    go_ret
    exact ⟨_, _, by rw [List.length_append, nodes_len]; simp; omega, rfl, HA9.out, HB9.out, _, HS9.out, by omega⟩
  have s5 : ((r : Int) == 5) = false := by simp; omega
  have HA9 : Hid (Nd.At w4 Q (.slice (some ⟨g, 0, none⟩) tm.size cu) (tm.nodes 0)) := hid (at_of_owns (by rw [nodes_len]; exact HO.out))
  have HS9 := HS
  clear HF HR HS HC HO
  go_wp2
  go_ret
  exact ⟨_, _, by rw [nodes_len]; omega, rfl, HA9.out, HB.out, _, HS9.out, by omega⟩
end DqE
end Go.Proofs.YtnbmpofmieagfaaGreatDoor
