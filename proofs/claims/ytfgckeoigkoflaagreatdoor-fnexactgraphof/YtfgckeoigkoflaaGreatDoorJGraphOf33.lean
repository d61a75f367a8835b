/- One more flow, in its place: the specification's l6Link. -/
import Derived.Test.YtfgckeoigkoflaaGreatDoorJGraphOf13
import Derived.Deep.RegionLaw
import Derived.RangeFuncBox
import Derived.Deep.RegionHeld3
namespace Go.Proofs.YtfgckeoigkoflaaGreatDoor
open Go.RowKit
set_option linter.unusedVariables false
namespace Gr
open Ex (hid nvals nval nvals_len infoNode at_of_owns owns_keep grown_cell2 grown_free2)
open Nd (NodeD)
open Gn (GNodeD)
open Fl (FlowD)
open Nst (own flat)
open Rc
theorem Row_kept {w w' : World} {size m : Nat} {x : Value} {news : List Value} (h : Ap.Row w size x m news) (hb : Below w.heap.size w w') : Ap.Row w' size x m news :=
  h.kept (fun a u hu => (hb.cell (p := a) (by
    rcases Nat.lt_or_ge a.block w.heap.size with h1 | h1
    · exact h1
    · simp [World.cell?, Array.getElem?_eq_none h1] at hu)).trans hu)
structure Thr (w : World) (X : Nat) (x : FlowD) (vc : Value) : Prop where
  k0 : w.cell? ⟨X, 0, none⟩ = some (.int .i64 x.src)
  k1 : w.cell? ⟨X, 1, none⟩ = some (.int .i64 x.dst)
  k2 : w.cell? ⟨X, 2, none⟩ = some vc
theorem Thr.lt {w : World} {X : Nat} {x : FlowD} {vc : Value} (h : Thr w X x vc) : X < w.heap.size := by
  rcases Nat.lt_or_ge X w.heap.size with h1 | h1
  · exact h1
  · have := h.k0; simp [World.cell?, Array.getElem?_eq_none h1] at this
theorem Thr.below {w w' : World} {X : Nat} {x : FlowD} {vc : Value} (h : Thr w X x vc) (hb : Below w.heap.size w w') : Thr w' X x vc := ⟨old_cell hb h.lt h.k0, old_cell hb h.lt h.k1, old_cell hb h.lt h.k2⟩
theorem Thr.set {w : World} {X P c : Nat} {u : Value} {x : FlowD} {vc : Value} (h : Thr w X x vc) (hP : P ≠ X) : Thr (w.setCell ⟨P, c, none⟩ u) X x vc := by
  have e : (w.setCell ⟨P, c, none⟩ u).heap[X]? = w.heap[X]? := Below.heap_setCell _ _ _ _ (by dsimp only; omega)
  have f : ∀ o, (w.setCell ⟨P, c, none⟩ u).cell? ⟨X, o, none⟩ = w.cell? ⟨X, o, none⟩ := fun o => by simp only [World.cell?]; rw [e]
  exact ⟨(f 0).trans h.k0, (f 1).trans h.k1, (f 2).trans h.k2⟩
theorem row_nil (w : World) (size : Nat) (a : Option Addr) (c : Nat) : Ap.Row w size (.slice a 0 c) 0 [] := ⟨a, c, rfl, by simp, (fun u h => absurd h (by simp)), .inl rfl⟩
theorem row_zero {w : World} {size m c : Nat} {a : Option Addr} {news : List Value} (h : m = 0) (hn : news = []) : Ap.Row w size (.slice a m c) m news := by
  subst h hn
  exact row_nil w size a c
theorem ff_addr {w : World} {B cap n : Nat} {ad : Addr} {e : TypeId} {size : Nat} {xs : List Value} (h : w.ownsRow B e size (.slice (some ad) n cap) n xs) : ad = ⟨ad.block, 0, none⟩ ∧ n ≤ cap ∧ cap ≤ maxLen := by
  rcases h.2 with ⟨e, _⟩ | ⟨g, c, cur, e, _, _, h1, h2, _⟩
  · cases e
  · cases e; exact ⟨rfl, h1, h2⟩
set_option maxRecDepth 100000 in
set_option maxHeartbeats 16000000 in
theorem specLink (P B0 : Nat) (S : Nat → Prop) (g : GraphD) (x : FlowD) (vc : Value) (w : World) (h : GB w P S g) (hc : Nd.At w B0 vc x.cond) (hcl : x.cond.length ≤ 100000) (hfl : g.flows.length ≤ 1000000000000) :
    Calls Tryz.prog 34 #[.pointer (some ⟨P, 0, none⟩), .int .i64 x.src, .int .i64 x.dst, vc] w fun e w' => (∃ r, e = .returned r) ∧ ∃ S', GB w' P S' ⟨g.nodes, linkL g.flows x⟩ ∧ Fr w w' P S S' := by
  obtain ⟨j0, hj, hy0, hy1, hy2⟩ := inf_parts2 infoNode
  obtain ⟨i0, hi, hx0, hx1, hx2⟩ := inf_parts2 Fl.infoR
  have hlt := h.lt
  have HROW := hid (row_of_at hc)
  obtain ⟨ac, cc, rfl⟩ := hc.slice
  have HG := hid h
  have hb0 : Below w.heap.size w (w.alloc (.cells #[] 115)) := (Below.refl _ w).alloc (Nat.le_refl _) _
  have HB0 := hid hb0
  have hown0 : (w.alloc (.cells #[] 115)).ownsRow w.heap.size 115 4 (.slice (some ⟨w.heap.size, 0, none⟩) 0 0) 0 [] := World.ownsRow_made w #[] 0 (Nat.le_refl _) (by unfold maxLen; omega) rfl
  have hrow0 := Row_kept HROW.out hb0
  clear h hc hb0
  go_enter Tryz.func34, Tryz.ntmps34
  go_wp2_with (at_builtin; go_must (refine Ap.wpList_any _ rfl _ _ 44 rfl w.heap.size 115 j0 _ 4 32 Tryz.underlying44 hj hy0 hy1 hy2 rfl (by omega) (.slice (some ⟨w.heap.size, 0, none⟩) 0 0) 0 [] rfl hown0 _ x.cond.length (nvals x.cond) rfl hrow0 (by unfold maxLen; omega) (by omega) (by simp) (w.heap.size + 1) (by simp) ?_); intro a2 c2 w2 hown2 hgrow2 hat2)
  simp only [Nat.zero_add, List.nil_append] at hown2
  have hB2 : Below w.heap.size w w2 := HB0.out.grown hgrow2 (by simp) (fun b e => by cases e; exact Nat.le_refl _)
  have HB2 := hid hB2
  have HXa : Hid (Below w2.heap.size w2 (w2.alloc (.cells #[.int .i64 x.src, .int .i64 x.dst, .slice a2 x.cond.length c2] 101))) := hid ((Below.refl _ w2).alloc (Nat.le_refl _) _)
  have HB3 := hid (hB2.trans (HXa.out.mono hB2.size))
  have HV3 := hid (owns_keep hown2 HXa.out)
  have HVL : Hid (∀ b, own (.slice a2 x.cond.length c2) b → b < w2.heap.size) := hid (fun b hb => (Nst.own_lt hown2 hb).2)
  have L3 : Hid ((w2.alloc (.cells #[.int .i64 x.src, .int .i64 x.dst, .slice a2 x.cond.length c2] 101)).heap.size = w2.heap.size + 1) := hid (by simp)
  have k0 : (w2.alloc (.cells #[.int .i64 x.src, .int .i64 x.dst, .slice a2 x.cond.length c2] 101)).cell? ⟨w2.heap.size, 0, none⟩ = some (.int .i64 x.src) := by go_simp
  have k1 : (w2.alloc (.cells #[.int .i64 x.src, .int .i64 x.dst, .slice a2 x.cond.length c2] 101)).cell? ⟨w2.heap.size, 1, none⟩ = some (.int .i64 x.dst) := by go_simp
  have k2 : (w2.alloc (.cells #[.int .i64 x.src, .int .i64 x.dst, .slice a2 x.cond.length c2] 101)).cell? ⟨w2.heap.size, 2, none⟩ = some (.slice a2 x.cond.length c2) := by go_simp
  clear hown2 hgrow2 hat2 hown0 hrow0 hB2 HB0 HROW
  generalize w2.alloc (.cells #[.int .i64 x.src, .int .i64 x.dst, .slice a2 x.cond.length c2] 101) = w3 at *
  obtain ⟨vn, vf, E, F, hP0, hSS, hA0, hF0, hX, hSl⟩ := HG.out
  have hP3 := (HB3.out.block P hlt).trans hP0
  have hA := hA0.below HB3.out
  have hF := hF0.below HB3.out
  obtain ⟨af, cf, rfl⟩ := Nst.own_slice hF.row
  have HE := hid (fun (k : Nat) (vc v' : Value) (w3 : World) hb hk hc hown hne => link_end (k := k) (vc := vc) (v' := v') (w3 := w3) (x := x) hb hlt hP0 hSS hSl hA0 hF0 hX hk hc hown hne)
  have HP3 := hid hP3
  have HFA := hid (FlOAt.at hF)
  have HFO := hid hF
  have u1 : w3.cell? ⟨P, 1, none⟩ = some (.slice af g.flows.length cf) := by simp [World.cell?, hP3]
  have uf : w3.frozen? ⟨P, 1, none⟩ = false := by simp [World.frozen?, hP3]
  have z3 : P < w3.heap.size := Nat.lt_of_lt_of_le hlt HB3.out.size
  have zx : w2.heap.size < w3.heap.size := by have := L3.out; omega
  clear hP3 hSS hSl hA hF hX hP0 hA0 hF0 HG
  go_loopw [9] (fun i wr => ∃ n : Nat, i = .int .i64 n ∧ n ≤ g.flows.length ∧ Hid (∀ i, i < n → (FJ g.flows i).src ≤ x.src) ∧ Hid (Below w3.heap.size w3 wr)) (fun i _ => g.flows.length - (intOf i).toNat)
  case atStart => exact ⟨0, rfl, Nat.zero_le _, hid (fun i h => by omega), hid (Below.refl _ _)⟩
  case round =>
    obtain ⟨n, rfl, hn, HS, HBR⟩ := hrel
    have c1 := old_cell HBR.out z3 u1
    have cf1 := old_free HBR.out z3 uf
    have zr := Nat.lt_of_lt_of_le z3 HBR.out.size
    by_cases hlt2 : n < g.flows.length
    · have q1 : (n : Int) < (g.flows.length : Int) := by omega
      obtain ⟨gf, of, vx, rfl, hgf, b0, b1, b2, hvx⟩ := (HFA.out.below HBR.out).at hlt2
      have HJ := hid (FJ_eq hlt2)
      clear hvx b1 b2
      by_cases hs : g.flows[n].src ≤ x.src
      · have HS2 : Hid (∀ i, i < n + 1 → (FJ g.flows i).src ≤ x.src) := hid (fun i hi => by
          by_cases e : i = n
          · subst e; rw [HJ.out]; exact hs
          · exact HS.out i (by omega))
        go_wp2
        exact ⟨⟨n + 1, by simp, by omega, HS2, HBR⟩, by simp [intOf]; omega⟩
      · have HPR : Hid (pref x.src g.flows = n) := hid (pref_at x.src hn HS.out (fun _ => by rw [HJ.out]; exact hs))
        have hown4 : (wr.alloc (.cells #[] 101)).ownsRow wr.heap.size 101 3 (.slice (some ⟨wr.heap.size, 0, none⟩) 0 0) 0 [] := World.ownsRow_made wr #[] 0 (Nat.le_refl _) (by unfold maxLen; omega) rfl
        have hbl : Below wr.heap.size wr (wr.alloc (.cells #[] 101)) := (Below.refl _ wr).alloc (Nat.le_refl _) _
        have HFR := hid (HFO.out.below HBR.out)
        obtain ⟨hfo, hfc, hfm⟩ := ff_addr HFR.out.row
        have hof : of = 0 := by simpa using congrArg Addr.off hfo
        subst hof
        rw [Nat.zero_add] at b0
        have hrow4 : ∀ c, Ap.Row (wr.alloc (.cells #[] 101)) 3 (.slice (some ⟨gf, 0, none⟩) n c) n ((flat (fun j => flcell (FJ g.flows j) (F j)) g.flows.length).take (n * 3)) := fun c => Row_kept (fl_head HFR.out hn c) hbl
        clear hbl hfo
        have hcn : ¬ cf = n := by omega
        go_wp2_with (at_builtin; go_must (refine Ap.wpList_any _ rfl _ _ 25 rfl wr.heap.size 101 i0 _ 3 40 Tryz.underlying25 hi hx0 hx1 hx2 rfl (by omega) (.slice (some ⟨wr.heap.size, 0, none⟩) 0 0) 0 [] rfl hown4 _ n ((flat (fun j => flcell (FJ g.flows j) (F j)) g.flows.length).take (n * 3)) rfl (hrow4 _) (by unfold maxLen; omega) (by omega) (by simp) (wr.heap.size + 1) (by simp) ?_); intro a4 c4 w4 hown5 hgrow4 hat4)
        simp only [Nat.zero_add, List.nil_append] at hown5
        have HB4 : Hid (Below wr.heap.size wr w4) := hid ((((Below.refl _ wr).alloc (Nat.le_refl _) _)).grown hgrow4 (by simp) (fun b e => by cases e; exact Nat.le_refl _))
        have d1 := old_cell HB4.out zr c1
        have df := old_free HB4.out zr cf1
        have x0 := old_cell HB4.out (Nat.lt_of_lt_of_le zx HBR.out.size) (old_cell HBR.out zx k0)
        have x1 := old_cell HB4.out (Nat.lt_of_lt_of_le zx HBR.out.size) (old_cell HBR.out zx k1)
        have x2 := old_cell HB4.out (Nat.lt_of_lt_of_le zx HBR.out.size) (old_cell HBR.out zx k2)
        have z4 := Nat.lt_of_lt_of_le zr HB4.out.size
        have HF4 := hid (HFR.out.below HB4.out)
        clear hgrow4 hat4 hown4 hrow4 b0 hgf
        have hal : Below w4.heap.size w4 (w4.alloc (.cells #[.int .i64 x.src, .int .i64 x.dst, .slice a2 x.cond.length c2] 101)).drew := ((Below.refl _ w4).alloc (Nat.le_refl _) _).drew
        have hrow5 : Ap.Row (w4.alloc (.cells #[.int .i64 x.src, .int .i64 x.dst, .slice a2 x.cond.length c2] 101)).drew 3 (.slice (some ⟨w4.heap.size, 0, none⟩) 1 1) 1 (flcell x (.slice a2 x.cond.length c2)) := ⟨_, _, rfl, rfl, (fun u hu => by simp [flcell] at hu; rcases hu with rfl | rfl | rfl <;> rfl), .inr ⟨_, rfl, World.news_of_block (cs := #[.int .i64 x.src, .int .i64 x.dst, .slice a2 x.cond.length c2]) (t := 101) (fr := (0, 0)) (heap_alloc_new w4 _)⟩⟩
        have lw4 : wr.heap.size ≤ w4.heap.size := HB4.out.size
        have zx2 : w2.heap.size < wr.heap.size := Nat.lt_of_lt_of_le zx HBR.out.size
        have HKR : Hid (Thr wr w2.heap.size x (.slice a2 x.cond.length c2)) := hid ⟨old_cell HBR.out zx k0, old_cell HBR.out zx k1, old_cell HBR.out zx k2⟩
        have HZ : Hid (w2.heap.size < wr.heap.size) := hid zx2
        have h43 : Thr w4.drew w2.heap.size x (.slice a2 x.cond.length c2) := ⟨x0, x1, x2⟩
        have y1 : w4.drew.cell? ⟨P, 1, none⟩ = some (.slice (some ⟨gf, 0, none⟩) g.flows.length cf) := d1
        have hA3 : Thr (w4.alloc (.cells #[.int .i64 x.src, .int .i64 x.dst, .slice a2 x.cond.length c2] 101)).drew w2.heap.size x (.slice a2 x.cond.length c2) := ⟨old_cell hal (by omega) x0, old_cell hal (by omega) x1, old_cell hal (by omega) x2⟩
        have y2 : (w4.alloc (.cells #[.int .i64 x.src, .int .i64 x.dst, .slice a2 x.cond.length c2] 101)).drew.cell? ⟨P, 1, none⟩ = some (.slice (some ⟨gf, 0, none⟩) g.flows.length cf) := old_cell hal z4 d1
        have hPX : P ≠ w2.heap.size := by have := HB2.out.size; omega
        refine wp_region_held_drew (S := fun wx => Thr wx w2.heap.size x (.slice a2 x.cond.length c2)) (by kernel_rfl) h43 (fun hHeld => ?_)
        refine wpAnyH_take (i := 0) (oi := { dst := some 46, op := Go.Op.move (Go.Operand.tmp 0), type := 76, pos := "l06_graph.go:14", after := #[], guard := none }) (v := .pointer (some ⟨P, 0, none⟩)) rfl (by kernel_rfl) (by kernel_rfl) (by kernel_rfl) (fun _ _ _ h => h) (Or.inl ⟨by rfl, by intro w hSw; (try dsimp only at hSw); obtain ⟨s0, s1, s2⟩ := hSw; go_simp⟩) (by assumption) ?_
        simp only [Act.put, List.setIfInBounds_toArray, List.set_cons_zero, List.set_cons_succ]
        refine wpAnyH_take (i := 1) (oi := { dst := some 47, op := Go.Op.move (Go.Operand.tmp 10), type := 25, pos := "l06_graph.go:14", after := #[], guard := none }) (v := .slice a4 n c4) rfl (by kernel_rfl) (by kernel_rfl) (by kernel_rfl) (fun _ _ _ h => h) (Or.inl ⟨by rfl, by intro w hSw; (try dsimp only at hSw); obtain ⟨s0, s1, s2⟩ := hSw; go_simp⟩) (by assumption) ?_
        simp only [Act.put, List.setIfInBounds_toArray, List.set_cons_zero, List.set_cons_succ]
        refine wpAnyH_take (i := 2) (oi := { dst := some 48, op := Go.Op.load 101 (Go.Operand.tmp 8), type := 101, pos := "l06_graph.go:14", after := #[], guard := none }) (v := .agg #[.int .i64 x.src, .int .i64 x.dst, .slice a2 x.cond.length c2]) rfl (by kernel_rfl) (by kernel_rfl) (by kernel_rfl) (fun _ _ _ h => h) (Or.inl ⟨by rfl, by intro w hSw; (try dsimp only at hSw); obtain ⟨s0, s1, s2⟩ := hSw; go_simp⟩) (by assumption) ?_
        simp only [Act.put, List.setIfInBounds_toArray, List.set_cons_zero, List.set_cons_succ]
        refine wpAnyH_take (i := 5) (oi := { dst := some 51, op := Go.Op.move (Go.Operand.tmp 0), type := 76, pos := "l06_graph.go:14", after := #[], guard := none }) (v := .pointer (some ⟨P, 0, none⟩)) rfl (by kernel_rfl) (by kernel_rfl) (by kernel_rfl) (fun _ _ _ h => h) (Or.inl ⟨by rfl, by intro w hSw; (try dsimp only at hSw); obtain ⟨s0, s1, s2⟩ := hSw; go_simp⟩) (by assumption) ?_
        simp only [Act.put, List.setIfInBounds_toArray, List.set_cons_zero, List.set_cons_succ]
        refine wpAnyH_take (i := 6) (oi := { dst := some 52, op := Go.Op.nilCheck (Go.Operand.tmp 51), type := 0, pos := "l06_graph.go:14", after := #[{ on := 5, ground := Go.Ground.data }], guard := none }) (v := .pointer (some ⟨P, 0, none⟩)) rfl (by kernel_rfl) (by kernel_rfl) (by kernel_rfl) (fun _ _ _ h => h) (Or.inl ⟨by rfl, by intro w hSw; (try dsimp only at hSw); obtain ⟨s0, s1, s2⟩ := hSw; go_simp⟩) (by assumption) ?_
        simp only [Act.put, List.setIfInBounds_toArray, List.set_cons_zero, List.set_cons_succ]
        refine wpAnyH_take (i := 7) (oi := { dst := some 53, op := Go.Op.fieldAddr 27 (Go.Operand.tmp 52) 1, type := 0, pos := "l06_graph.go:14", after := #[{ on := 6, ground := Go.Ground.data }], guard := none }) (v := .pointer (some ⟨P, 1, none⟩)) rfl (by kernel_rfl) (by kernel_rfl) (by kernel_rfl) (fun _ _ _ h => h) (Or.inl ⟨by rfl, by intro w hSw; (try dsimp only at hSw); obtain ⟨s0, s1, s2⟩ := hSw; go_simp⟩) (by assumption) ?_
        simp only [Act.put, List.setIfInBounds_toArray, List.set_cons_zero, List.set_cons_succ]
        refine wpAnyH_take (i := 9) (oi := { dst := some 55, op := Go.Op.move (Go.Operand.tmp 9), type := 3, pos := "l06_graph.go:14", after := #[], guard := none }) (v := .int .i64 (n : Int)) rfl (by kernel_rfl) (by kernel_rfl) (by kernel_rfl) (fun _ _ _ h => h) (Or.inl ⟨by rfl, by intro w hSw; (try dsimp only at hSw); obtain ⟨s0, s1, s2⟩ := hSw; go_simp⟩) (by assumption) ?_
        simp only [Act.put, List.setIfInBounds_toArray, List.set_cons_zero, List.set_cons_succ]
        refine wpAnyH_ready (rs := [3, 8]) (by kernel_rfl) (by simp) ?_
        refine (AllReadyH.cons (o := { dst := some 49, op := Go.Op.buildSlice 25 1 #[(0, Go.Operand.tmp 48)], type := 25, pos := "l06_graph.go:14", after := #[{ on := 2, ground := Go.Ground.data }], guard := none }) rfl (fun K hK => ?_) (AllReadyH.cons (o := { dst := some 54, op := Go.Op.load 25 (Go.Operand.tmp 53), type := 25, pos := "l06_graph.go:14", after := #[{ on := 7, ground := Go.Ground.data }], guard := none }) rfl (fun K hK => ?_) AllReadyH.nil))
        · go_simp
          refine hK.out _ _ hA3 (fun hHeld => ?_)
          clear hK K
          try simp only [Act.put, List.setIfInBounds_toArray, List.set_cons_zero, List.set_cons_succ]
          refine wpAnyH_ready (rs := [4, 8]) (by kernel_rfl) (by simp) ?_
          refine (AllReadyH.cons (o := { dst := some 50, op := Go.Op.call { callee := Go.Callee.builtin Go.Builtin.append, args := #[Go.Operand.tmp 47, Go.Operand.tmp 49], argTypes := #[25, 25] }, type := 25, pos := "l06_graph.go:14", after := #[{ on := 1, ground := Go.Ground.data }, { on := 3, ground := Go.Ground.data }], guard := none }) rfl (fun K hK => ?_) (AllReadyH.cons (o := { dst := some 54, op := Go.Op.load 25 (Go.Operand.tmp 53), type := 25, pos := "l06_graph.go:14", after := #[{ on := 7, ground := Go.Ground.data }], guard := none }) rfl (fun K hK => ?_) AllReadyH.nil))
          · refine Ap.step_any _ (by rfl) _ _ 25 (by rfl) wr.heap.size 101 i0 _ 3 40 Tryz.underlying25 hi hx0 hx1 hx2 rfl (by omega) (.slice a4 n c4) n ((flat (fun j => flcell (FJ g.flows j) (F j)) g.flows.length).take (n * 3)) (by rfl) ((hown5.alloc _).drew) (.slice (some ⟨w4.heap.size, 0, none⟩) 1 1) 1 (flcell x (.slice a2 x.cond.length c2)) (by rfl) hrow5 (by unfold maxLen; omega) (by omega) (by simp; omega) (w4.heap.size + 1) (by simp) ?_
            intro a5 c5 w5 hown6 hgrow5 hat5
            have hB5 : Below wr.heap.size wr w5 := (HB4.out.trans (hal.mono HB4.out.size)).grown hgrow5 (by simp; omega) (fun b e => (Nst.own_lt hown5 e).1)
            have h53 := HKR.out.below hB5
            have e1 := old_cell hB5 zr c1
            have ef := old_free hB5 zr cf1
            have hrow6 := fl_tail (HFR.out.below hB5) hn (cf - n)
            refine hK.out _ _ h53 (fun hHeld => ?_)
            clear hK K
            try simp only [Act.put, List.setIfInBounds_toArray, List.set_cons_zero, List.set_cons_succ]
            refine wpAnyH_ready (rs := [8]) (by kernel_rfl) (by simp) ?_
            refine (AllReadyH.cons (o := { dst := some 54, op := Go.Op.load 25 (Go.Operand.tmp 53), type := 25, pos := "l06_graph.go:14", after := #[{ on := 7, ground := Go.Ground.data }], guard := none }) rfl (fun K hK => ?_) AllReadyH.nil)
            go_simp
            refine hK.out _ _ h53 (fun hHeld => ?_)
            clear hK K
            try simp only [Act.put, List.setIfInBounds_toArray, List.set_cons_zero, List.set_cons_succ]
            refine wpAnyH_take (i := 10) (oi := { dst := some 56, op := Go.Op.slice 25 (Go.Operand.tmp 54) (some (Go.Operand.tmp 55)) none none, type := 25, pos := "l06_graph.go:14", after := #[{ on := 8, ground := Go.Ground.data }, { on := 9, ground := Go.Ground.data }], guard := none }) (v := .slice (some ⟨gf, n * 3, none⟩) (g.flows.length - n) (cf - n)) rfl (by kernel_rfl) (by kernel_rfl) (by kernel_rfl) (fun _ _ _ h => h) (Or.inl ⟨by rfl, by intro w hSw; (try dsimp only at hSw); obtain ⟨s0, s1, s2⟩ := hSw; go_simp⟩) (by assumption) ?_
            simp only [Act.put, List.setIfInBounds_toArray, List.set_cons_zero, List.set_cons_succ]
            refine wpAnyH_ready (rs := [11]) (by kernel_rfl) (by simp) ?_
            refine (AllReadyH.cons (o := { dst := some 57, op := Go.Op.call { callee := Go.Callee.builtin Go.Builtin.append, args := #[Go.Operand.tmp 50, Go.Operand.tmp 56], argTypes := #[25, 25] }, type := 25, pos := "l06_graph.go:14", after := #[{ on := 4, ground := Go.Ground.data }, { on := 10, ground := Go.Ground.data }, { on := 4, ground := Go.Ground.chain }], guard := none }) rfl (fun K hK => ?_) AllReadyH.nil)
            refine Ap.step_any _ (by rfl) _ _ 25 (by rfl) wr.heap.size 101 i0 _ 3 40 Tryz.underlying25 hi hx0 hx1 hx2 rfl (by omega) (.slice a5 (n + 1) c5) (n + 1) ((flat (fun j => flcell (FJ g.flows j) (F j)) g.flows.length).take (n * 3) ++ flcell x (.slice a2 x.cond.length c2)) (by rfl) hown6 (.slice (some ⟨gf, n * 3, none⟩) (g.flows.length - n) (cf - n)) (g.flows.length - n) ((flat (fun j => flcell (FJ g.flows j) (F j)) g.flows.length).drop (n * 3)) (by rfl) hrow6 (by unfold maxLen; omega) (by omega) hB5.size w5.heap.size rfl ?_
            intro a6 c6 w6 hown7 hgrow6 hat6
            have hB6 : Below wr.heap.size wr w6 := hB5.grown hgrow6 hB5.size (fun b e => (Nst.own_lt hown6 e).1)
            have h63 := HKR.out.below hB6
            have e1 := old_cell hB6 zr c1
            have ef := old_free hB6 zr cf1
            have HO7 := hid hown7
            have HB6 := hid hB6
            refine hK.out _ _ h63 (fun hHeld => ?_)
            clear hK K
            try simp only [Act.put, List.setIfInBounds_toArray, List.set_cons_zero, List.set_cons_succ]
            refine wpAnyH_take (i := 12) (oi := { dst := some 58, op := Go.Op.nilCheck (Go.Operand.tmp 46), type := 0, pos := "l06_graph.go:14", after := #[{ on := 0, ground := Go.Ground.data }, { on := 0, ground := Go.Ground.phase }, { on := 1, ground := Go.Ground.phase }, { on := 2, ground := Go.Ground.phase }, { on := 3, ground := Go.Ground.phase }, { on := 4, ground := Go.Ground.phase }, { on := 5, ground := Go.Ground.phase }, { on := 6, ground := Go.Ground.phase }, { on := 7, ground := Go.Ground.phase }, { on := 8, ground := Go.Ground.phase }, { on := 9, ground := Go.Ground.phase }, { on := 10, ground := Go.Ground.phase }, { on := 11, ground := Go.Ground.phase }], guard := none }) (v := .pointer (some ⟨P, 0, none⟩)) rfl (by kernel_rfl) (by kernel_rfl) (by kernel_rfl) (fun _ _ _ h => h) (Or.inl ⟨by rfl, by intro w hSw; (try dsimp only at hSw); obtain ⟨s0, s1, s2⟩ := hSw; go_simp⟩) (by assumption) ?_
            simp only [Act.put, List.setIfInBounds_toArray, List.set_cons_zero, List.set_cons_succ]
            refine wpAnyH_take (i := 13) (oi := { dst := some 59, op := Go.Op.fieldAddr 27 (Go.Operand.tmp 58) 1, type := 0, pos := "l06_graph.go:14", after := #[{ on := 12, ground := Go.Ground.data }, { on := 0, ground := Go.Ground.phase }, { on := 1, ground := Go.Ground.phase }, { on := 2, ground := Go.Ground.phase }, { on := 3, ground := Go.Ground.phase }, { on := 4, ground := Go.Ground.phase }, { on := 5, ground := Go.Ground.phase }, { on := 6, ground := Go.Ground.phase }, { on := 7, ground := Go.Ground.phase }, { on := 8, ground := Go.Ground.phase }, { on := 9, ground := Go.Ground.phase }, { on := 10, ground := Go.Ground.phase }, { on := 11, ground := Go.Ground.phase }], guard := none }) (v := .pointer (some ⟨P, 1, none⟩)) rfl (by kernel_rfl) (by kernel_rfl) (by kernel_rfl) (fun _ _ _ h => h) (Or.inl ⟨by rfl, by intro w hSw; (try dsimp only at hSw); obtain ⟨s0, s1, s2⟩ := hSw; go_simp⟩) (by assumption) ?_
            simp only [Act.put, List.setIfInBounds_toArray, List.set_cons_zero, List.set_cons_succ]
            refine wpAnyH_ready (rs := [14]) (by kernel_rfl) (by simp) ?_
            refine (AllReadyH.cons (o := { dst := none, op := Go.Op.store 25 (Go.Operand.tmp 59) (Go.Operand.tmp 57), type := 0, pos := "l06_graph.go:14", after := #[{ on := 13, ground := Go.Ground.data }, { on := 11, ground := Go.Ground.data }, { on := 11, ground := Go.Ground.chain }, { on := 0, ground := Go.Ground.phase }, { on := 1, ground := Go.Ground.phase }, { on := 2, ground := Go.Ground.phase }, { on := 3, ground := Go.Ground.phase }, { on := 4, ground := Go.Ground.phase }, { on := 5, ground := Go.Ground.phase }, { on := 6, ground := Go.Ground.phase }, { on := 7, ground := Go.Ground.phase }, { on := 8, ground := Go.Ground.phase }, { on := 9, ground := Go.Ground.phase }, { on := 10, ground := Go.Ground.phase }, { on := 11, ground := Go.Ground.phase }], guard := none }) rfl (fun K hK => ?_) AllReadyH.nil)
            go_simp
            refine hK.out _ _ (h63.set hPX) (fun hHeld => ?_)
            clear hK K
            try simp only [Act.put, List.setIfInBounds_toArray, List.set_cons_zero, List.set_cons_succ]
            refine wpAnyH_done (by kernel_rfl) ?_ _
            clear hgrow5 hgrow6 hat5 hat6 hown6 hown7 e1 ef hB5 hB6 hrow6 h53 h63 hHeld
            go_wp2
            refine bodyPost_end (v := .tuple #[]) (results_none Tryz.results34 _ _ _) rfl ?_
            refine ⟨⟨_, rfl⟩, ?_⟩
            have hs1 := HB6.out.size
            have hbw := HB3.out.trans ((HBR.out.trans (HB6.out.mono HBR.out.size)).mono HB3.out.size)
            have hb3 := HBR.out.trans (HB6.out.mono HBR.out.size)
            have hkl : n + 1 + (g.flows.length - n) = g.flows.length + 1 := by omega
            have ho := HO7.out
            rw [hkl] at ho
            first | rw [hkl] | rw [show n + 1 = g.flows.length + 1 by omega]
            have hfin := HE.out n (.slice a2 x.cond.length c2) (.slice a6 (g.flows.length + 1) c6) w6 hbw hn (owns_keep HV3.out hb3) (Nst.own_mono ho (by have := HB3.out.size; have := HBR.out.size; omega)) (fun b e1 e2 => by have := HVL.out b e1; have := (Nst.own_lt ho e2).1; have := HZ.out; omega)
            unfold linkL
            rw [HPR.out]
            exact hfin
          · go_simp
            refine hK.out _ _ hA3 (fun hHeld => ?_)
            clear hK K
            try simp only [Act.put, List.setIfInBounds_toArray, List.set_cons_zero, List.set_cons_succ]
            refine wpAnyH_take (i := 10) (oi := { dst := some 56, op := Go.Op.slice 25 (Go.Operand.tmp 54) (some (Go.Operand.tmp 55)) none none, type := 25, pos := "l06_graph.go:14", after := #[{ on := 8, ground := Go.Ground.data }, { on := 9, ground := Go.Ground.data }], guard := none }) (v := .slice (some ⟨gf, n * 3, none⟩) (g.flows.length - n) (cf - n)) rfl (by kernel_rfl) (by kernel_rfl) (by kernel_rfl) (fun _ _ _ h => h) (Or.inl ⟨by rfl, by intro w hSw; (try dsimp only at hSw); obtain ⟨s0, s1, s2⟩ := hSw; go_simp⟩) (by assumption) ?_
            simp only [Act.put, List.setIfInBounds_toArray, List.set_cons_zero, List.set_cons_succ]
            refine wpAnyH_ready (rs := [4]) (by kernel_rfl) (by simp) ?_
            refine (AllReadyH.cons (o := { dst := some 50, op := Go.Op.call { callee := Go.Callee.builtin Go.Builtin.append, args := #[Go.Operand.tmp 47, Go.Operand.tmp 49], argTypes := #[25, 25] }, type := 25, pos := "l06_graph.go:14", after := #[{ on := 1, ground := Go.Ground.data }, { on := 3, ground := Go.Ground.data }], guard := none }) rfl (fun K hK => ?_) AllReadyH.nil)
            refine Ap.step_any _ (by rfl) _ _ 25 (by rfl) wr.heap.size 101 i0 _ 3 40 Tryz.underlying25 hi hx0 hx1 hx2 rfl (by omega) (.slice a4 n c4) n ((flat (fun j => flcell (FJ g.flows j) (F j)) g.flows.length).take (n * 3)) (by rfl) ((hown5.alloc _).drew) (.slice (some ⟨w4.heap.size, 0, none⟩) 1 1) 1 (flcell x (.slice a2 x.cond.length c2)) (by rfl) hrow5 (by unfold maxLen; omega) (by omega) (by simp; omega) (w4.heap.size + 1) (by simp) ?_
            intro a5 c5 w5 hown6 hgrow5 hat5
            have hB5 : Below wr.heap.size wr w5 := (HB4.out.trans (hal.mono HB4.out.size)).grown hgrow5 (by simp; omega) (fun b e => (Nst.own_lt hown5 e).1)
            have h53 := HKR.out.below hB5
            have e1 := old_cell hB5 zr c1
            have ef := old_free hB5 zr cf1
            have hrow6 := fl_tail (HFR.out.below hB5) hn (cf - n)
            refine hK.out _ _ h53 (fun hHeld => ?_)
            clear hK K
            try simp only [Act.put, List.setIfInBounds_toArray, List.set_cons_zero, List.set_cons_succ]
            refine wpAnyH_ready (rs := [11]) (by kernel_rfl) (by simp) ?_
            refine (AllReadyH.cons (o := { dst := some 57, op := Go.Op.call { callee := Go.Callee.builtin Go.Builtin.append, args := #[Go.Operand.tmp 50, Go.Operand.tmp 56], argTypes := #[25, 25] }, type := 25, pos := "l06_graph.go:14", after := #[{ on := 4, ground := Go.Ground.data }, { on := 10, ground := Go.Ground.data }, { on := 4, ground := Go.Ground.chain }], guard := none }) rfl (fun K hK => ?_) AllReadyH.nil)
            refine Ap.step_any _ (by rfl) _ _ 25 (by rfl) wr.heap.size 101 i0 _ 3 40 Tryz.underlying25 hi hx0 hx1 hx2 rfl (by omega) (.slice a5 (n + 1) c5) (n + 1) ((flat (fun j => flcell (FJ g.flows j) (F j)) g.flows.length).take (n * 3) ++ flcell x (.slice a2 x.cond.length c2)) (by rfl) hown6 (.slice (some ⟨gf, n * 3, none⟩) (g.flows.length - n) (cf - n)) (g.flows.length - n) ((flat (fun j => flcell (FJ g.flows j) (F j)) g.flows.length).drop (n * 3)) (by rfl) hrow6 (by unfold maxLen; omega) (by omega) hB5.size w5.heap.size rfl ?_
            intro a6 c6 w6 hown7 hgrow6 hat6
            have hB6 : Below wr.heap.size wr w6 := hB5.grown hgrow6 hB5.size (fun b e => (Nst.own_lt hown6 e).1)
            have h63 := HKR.out.below hB6
            have e1 := old_cell hB6 zr c1
            have ef := old_free hB6 zr cf1
            have HO7 := hid hown7
            have HB6 := hid hB6
            refine hK.out _ _ h63 (fun hHeld => ?_)
            clear hK K
            try simp only [Act.put, List.setIfInBounds_toArray, List.set_cons_zero, List.set_cons_succ]
            refine wpAnyH_take (i := 12) (oi := { dst := some 58, op := Go.Op.nilCheck (Go.Operand.tmp 46), type := 0, pos := "l06_graph.go:14", after := #[{ on := 0, ground := Go.Ground.data }, { on := 0, ground := Go.Ground.phase }, { on := 1, ground := Go.Ground.phase }, { on := 2, ground := Go.Ground.phase }, { on := 3, ground := Go.Ground.phase }, { on := 4, ground := Go.Ground.phase }, { on := 5, ground := Go.Ground.phase }, { on := 6, ground := Go.Ground.phase }, { on := 7, ground := Go.Ground.phase }, { on := 8, ground := Go.Ground.phase }, { on := 9, ground := Go.Ground.phase }, { on := 10, ground := Go.Ground.phase }, { on := 11, ground := Go.Ground.phase }], guard := none }) (v := .pointer (some ⟨P, 0, none⟩)) rfl (by kernel_rfl) (by kernel_rfl) (by kernel_rfl) (fun _ _ _ h => h) (Or.inl ⟨by rfl, by intro w hSw; (try dsimp only at hSw); obtain ⟨s0, s1, s2⟩ := hSw; go_simp⟩) (by assumption) ?_
            simp only [Act.put, List.setIfInBounds_toArray, List.set_cons_zero, List.set_cons_succ]
            refine wpAnyH_take (i := 13) (oi := { dst := some 59, op := Go.Op.fieldAddr 27 (Go.Operand.tmp 58) 1, type := 0, pos := "l06_graph.go:14", after := #[{ on := 12, ground := Go.Ground.data }, { on := 0, ground := Go.Ground.phase }, { on := 1, ground := Go.Ground.phase }, { on := 2, ground := Go.Ground.phase }, { on := 3, ground := Go.Ground.phase }, { on := 4, ground := Go.Ground.phase }, { on := 5, ground := Go.Ground.phase }, { on := 6, ground := Go.Ground.phase }, { on := 7, ground := Go.Ground.phase }, { on := 8, ground := Go.Ground.phase }, { on := 9, ground := Go.Ground.phase }, { on := 10, ground := Go.Ground.phase }, { on := 11, ground := Go.Ground.phase }], guard := none }) (v := .pointer (some ⟨P, 1, none⟩)) rfl (by kernel_rfl) (by kernel_rfl) (by kernel_rfl) (fun _ _ _ h => h) (Or.inl ⟨by rfl, by intro w hSw; (try dsimp only at hSw); obtain ⟨s0, s1, s2⟩ := hSw; go_simp⟩) (by assumption) ?_
            simp only [Act.put, List.setIfInBounds_toArray, List.set_cons_zero, List.set_cons_succ]
            refine wpAnyH_ready (rs := [14]) (by kernel_rfl) (by simp) ?_
            refine (AllReadyH.cons (o := { dst := none, op := Go.Op.store 25 (Go.Operand.tmp 59) (Go.Operand.tmp 57), type := 0, pos := "l06_graph.go:14", after := #[{ on := 13, ground := Go.Ground.data }, { on := 11, ground := Go.Ground.data }, { on := 11, ground := Go.Ground.chain }, { on := 0, ground := Go.Ground.phase }, { on := 1, ground := Go.Ground.phase }, { on := 2, ground := Go.Ground.phase }, { on := 3, ground := Go.Ground.phase }, { on := 4, ground := Go.Ground.phase }, { on := 5, ground := Go.Ground.phase }, { on := 6, ground := Go.Ground.phase }, { on := 7, ground := Go.Ground.phase }, { on := 8, ground := Go.Ground.phase }, { on := 9, ground := Go.Ground.phase }, { on := 10, ground := Go.Ground.phase }, { on := 11, ground := Go.Ground.phase }], guard := none }) rfl (fun K hK => ?_) AllReadyH.nil)
            go_simp
            refine hK.out _ _ (h63.set hPX) (fun hHeld => ?_)
            clear hK K
            try simp only [Act.put, List.setIfInBounds_toArray, List.set_cons_zero, List.set_cons_succ]
            refine wpAnyH_done (by kernel_rfl) ?_ _
            clear hgrow5 hgrow6 hat5 hat6 hown6 hown7 e1 ef hB5 hB6 hrow6 h53 h63 hHeld
            go_wp2
            refine bodyPost_end (v := .tuple #[]) (results_none Tryz.results34 _ _ _) rfl ?_
            refine ⟨⟨_, rfl⟩, ?_⟩
            have hs1 := HB6.out.size
            have hbw := HB3.out.trans ((HBR.out.trans (HB6.out.mono HBR.out.size)).mono HB3.out.size)
            have hb3 := HBR.out.trans (HB6.out.mono HBR.out.size)
            have hkl : n + 1 + (g.flows.length - n) = g.flows.length + 1 := by omega
            have ho := HO7.out
            rw [hkl] at ho
            first | rw [hkl] | rw [show n + 1 = g.flows.length + 1 by omega]
            have hfin := HE.out n (.slice a2 x.cond.length c2) (.slice a6 (g.flows.length + 1) c6) w6 hbw hn (owns_keep HV3.out hb3) (Nst.own_mono ho (by have := HB3.out.size; have := HBR.out.size; omega)) (fun b e1 e2 => by have := HVL.out b e1; have := (Nst.own_lt ho e2).1; have := HZ.out; omega)
            unfold linkL
            rw [HPR.out]
            exact hfin
        · go_simp
          refine hK.out _ _ h43 (fun hHeld => ?_)
          clear hK K
          try simp only [Act.put, List.setIfInBounds_toArray, List.set_cons_zero, List.set_cons_succ]
          refine wpAnyH_take (i := 10) (oi := { dst := some 56, op := Go.Op.slice 25 (Go.Operand.tmp 54) (some (Go.Operand.tmp 55)) none none, type := 25, pos := "l06_graph.go:14", after := #[{ on := 8, ground := Go.Ground.data }, { on := 9, ground := Go.Ground.data }], guard := none }) (v := .slice (some ⟨gf, n * 3, none⟩) (g.flows.length - n) (cf - n)) rfl (by kernel_rfl) (by kernel_rfl) (by kernel_rfl) (fun _ _ _ h => h) (Or.inl ⟨by rfl, by intro w hSw; (try dsimp only at hSw); obtain ⟨s0, s1, s2⟩ := hSw; go_simp⟩) (by assumption) ?_
          simp only [Act.put, List.setIfInBounds_toArray, List.set_cons_zero, List.set_cons_succ]
          refine wpAnyH_ready (rs := [3]) (by kernel_rfl) (by simp) ?_
          refine (AllReadyH.cons (o := { dst := some 49, op := Go.Op.buildSlice 25 1 #[(0, Go.Operand.tmp 48)], type := 25, pos := "l06_graph.go:14", after := #[{ on := 2, ground := Go.Ground.data }], guard := none }) rfl (fun K hK => ?_) AllReadyH.nil)
          go_simp
          refine hK.out _ _ hA3 (fun hHeld => ?_)
          clear hK K
          try simp only [Act.put, List.setIfInBounds_toArray, List.set_cons_zero, List.set_cons_succ]
          refine wpAnyH_ready (rs := [4]) (by kernel_rfl) (by simp) ?_
          refine (AllReadyH.cons (o := { dst := some 50, op := Go.Op.call { callee := Go.Callee.builtin Go.Builtin.append, args := #[Go.Operand.tmp 47, Go.Operand.tmp 49], argTypes := #[25, 25] }, type := 25, pos := "l06_graph.go:14", after := #[{ on := 1, ground := Go.Ground.data }, { on := 3, ground := Go.Ground.data }], guard := none }) rfl (fun K hK => ?_) AllReadyH.nil)
          refine Ap.step_any _ (by rfl) _ _ 25 (by rfl) wr.heap.size 101 i0 _ 3 40 Tryz.underlying25 hi hx0 hx1 hx2 rfl (by omega) (.slice a4 n c4) n ((flat (fun j => flcell (FJ g.flows j) (F j)) g.flows.length).take (n * 3)) (by rfl) ((hown5.alloc _).drew) (.slice (some ⟨w4.heap.size, 0, none⟩) 1 1) 1 (flcell x (.slice a2 x.cond.length c2)) (by rfl) hrow5 (by unfold maxLen; omega) (by omega) (by simp; omega) (w4.heap.size + 1) (by simp) ?_
          intro a5 c5 w5 hown6 hgrow5 hat5
          have hB5 : Below wr.heap.size wr w5 := (HB4.out.trans (hal.mono HB4.out.size)).grown hgrow5 (by simp; omega) (fun b e => (Nst.own_lt hown5 e).1)
          have h53 := HKR.out.below hB5
          have e1 := old_cell hB5 zr c1
          have ef := old_free hB5 zr cf1
          have hrow6 := fl_tail (HFR.out.below hB5) hn (cf - n)
          refine hK.out _ _ h53 (fun hHeld => ?_)
          clear hK K
          try simp only [Act.put, List.setIfInBounds_toArray, List.set_cons_zero, List.set_cons_succ]
          refine wpAnyH_ready (rs := [11]) (by kernel_rfl) (by simp) ?_
          refine (AllReadyH.cons (o := { dst := some 57, op := Go.Op.call { callee := Go.Callee.builtin Go.Builtin.append, args := #[Go.Operand.tmp 50, Go.Operand.tmp 56], argTypes := #[25, 25] }, type := 25, pos := "l06_graph.go:14", after := #[{ on := 4, ground := Go.Ground.data }, { on := 10, ground := Go.Ground.data }, { on := 4, ground := Go.Ground.chain }], guard := none }) rfl (fun K hK => ?_) AllReadyH.nil)
          refine Ap.step_any _ (by rfl) _ _ 25 (by rfl) wr.heap.size 101 i0 _ 3 40 Tryz.underlying25 hi hx0 hx1 hx2 rfl (by omega) (.slice a5 (n + 1) c5) (n + 1) ((flat (fun j => flcell (FJ g.flows j) (F j)) g.flows.length).take (n * 3) ++ flcell x (.slice a2 x.cond.length c2)) (by rfl) hown6 (.slice (some ⟨gf, n * 3, none⟩) (g.flows.length - n) (cf - n)) (g.flows.length - n) ((flat (fun j => flcell (FJ g.flows j) (F j)) g.flows.length).drop (n * 3)) (by rfl) hrow6 (by unfold maxLen; omega) (by omega) hB5.size w5.heap.size rfl ?_
          intro a6 c6 w6 hown7 hgrow6 hat6
          have hB6 : Below wr.heap.size wr w6 := hB5.grown hgrow6 hB5.size (fun b e => (Nst.own_lt hown6 e).1)
          have h63 := HKR.out.below hB6
          have e1 := old_cell hB6 zr c1
          have ef := old_free hB6 zr cf1
          have HO7 := hid hown7
          have HB6 := hid hB6
          refine hK.out _ _ h63 (fun hHeld => ?_)
          clear hK K
          try simp only [Act.put, List.setIfInBounds_toArray, List.set_cons_zero, List.set_cons_succ]
          refine wpAnyH_take (i := 12) (oi := { dst := some 58, op := Go.Op.nilCheck (Go.Operand.tmp 46), type := 0, pos := "l06_graph.go:14", after := #[{ on := 0, ground := Go.Ground.data }, { on := 0, ground := Go.Ground.phase }, { on := 1, ground := Go.Ground.phase }, { on := 2, ground := Go.Ground.phase }, { on := 3, ground := Go.Ground.phase }, { on := 4, ground := Go.Ground.phase }, { on := 5, ground := Go.Ground.phase }, { on := 6, ground := Go.Ground.phase }, { on := 7, ground := Go.Ground.phase }, { on := 8, ground := Go.Ground.phase }, { on := 9, ground := Go.Ground.phase }, { on := 10, ground := Go.Ground.phase }, { on := 11, ground := Go.Ground.phase }], guard := none }) (v := .pointer (some ⟨P, 0, none⟩)) rfl (by kernel_rfl) (by kernel_rfl) (by kernel_rfl) (fun _ _ _ h => h) (Or.inl ⟨by rfl, by intro w hSw; (try dsimp only at hSw); obtain ⟨s0, s1, s2⟩ := hSw; go_simp⟩) (by assumption) ?_
          simp only [Act.put, List.setIfInBounds_toArray, List.set_cons_zero, List.set_cons_succ]
          refine wpAnyH_take (i := 13) (oi := { dst := some 59, op := Go.Op.fieldAddr 27 (Go.Operand.tmp 58) 1, type := 0, pos := "l06_graph.go:14", after := #[{ on := 12, ground := Go.Ground.data }, { on := 0, ground := Go.Ground.phase }, { on := 1, ground := Go.Ground.phase }, { on := 2, ground := Go.Ground.phase }, { on := 3, ground := Go.Ground.phase }, { on := 4, ground := Go.Ground.phase }, { on := 5, ground := Go.Ground.phase }, { on := 6, ground := Go.Ground.phase }, { on := 7, ground := Go.Ground.phase }, { on := 8, ground := Go.Ground.phase }, { on := 9, ground := Go.Ground.phase }, { on := 10, ground := Go.Ground.phase }, { on := 11, ground := Go.Ground.phase }], guard := none }) (v := .pointer (some ⟨P, 1, none⟩)) rfl (by kernel_rfl) (by kernel_rfl) (by kernel_rfl) (fun _ _ _ h => h) (Or.inl ⟨by rfl, by intro w hSw; (try dsimp only at hSw); obtain ⟨s0, s1, s2⟩ := hSw; go_simp⟩) (by assumption) ?_
          simp only [Act.put, List.setIfInBounds_toArray, List.set_cons_zero, List.set_cons_succ]
          refine wpAnyH_ready (rs := [14]) (by kernel_rfl) (by simp) ?_
          refine (AllReadyH.cons (o := { dst := none, op := Go.Op.store 25 (Go.Operand.tmp 59) (Go.Operand.tmp 57), type := 0, pos := "l06_graph.go:14", after := #[{ on := 13, ground := Go.Ground.data }, { on := 11, ground := Go.Ground.data }, { on := 11, ground := Go.Ground.chain }, { on := 0, ground := Go.Ground.phase }, { on := 1, ground := Go.Ground.phase }, { on := 2, ground := Go.Ground.phase }, { on := 3, ground := Go.Ground.phase }, { on := 4, ground := Go.Ground.phase }, { on := 5, ground := Go.Ground.phase }, { on := 6, ground := Go.Ground.phase }, { on := 7, ground := Go.Ground.phase }, { on := 8, ground := Go.Ground.phase }, { on := 9, ground := Go.Ground.phase }, { on := 10, ground := Go.Ground.phase }, { on := 11, ground := Go.Ground.phase }], guard := none }) rfl (fun K hK => ?_) AllReadyH.nil)
          go_simp
          refine hK.out _ _ (h63.set hPX) (fun hHeld => ?_)
          clear hK K
          try simp only [Act.put, List.setIfInBounds_toArray, List.set_cons_zero, List.set_cons_succ]
          refine wpAnyH_done (by kernel_rfl) ?_ _
          clear hgrow5 hgrow6 hat5 hat6 hown6 hown7 e1 ef hB5 hB6 hrow6 h53 h63 hHeld
          go_wp2
          refine bodyPost_end (v := .tuple #[]) (results_none Tryz.results34 _ _ _) rfl ?_
          refine ⟨⟨_, rfl⟩, ?_⟩
          have hs1 := HB6.out.size
          have hbw := HB3.out.trans ((HBR.out.trans (HB6.out.mono HBR.out.size)).mono HB3.out.size)
          have hb3 := HBR.out.trans (HB6.out.mono HBR.out.size)
          have hkl : n + 1 + (g.flows.length - n) = g.flows.length + 1 := by omega
          have ho := HO7.out
          rw [hkl] at ho
          first | rw [hkl] | rw [show n + 1 = g.flows.length + 1 by omega]
          have hfin := HE.out n (.slice a2 x.cond.length c2) (.slice a6 (g.flows.length + 1) c6) w6 hbw hn (owns_keep HV3.out hb3) (Nst.own_mono ho (by have := HB3.out.size; have := HBR.out.size; omega)) (fun b e1 e2 => by have := HVL.out b e1; have := (Nst.own_lt ho e2).1; have := HZ.out; omega)
          unfold linkL
          rw [HPR.out]
          exact hfin
    · have q1 : ¬ (n : Int) < (g.flows.length : Int) := by omega
      have HPR : Hid (pref x.src g.flows = n) := hid (pref_at x.src hn HS.out (fun h => absurd h hlt2))
      cases af with
      | none =>
        have hown4 : (wr.alloc (.cells #[] 101)).ownsRow wr.heap.size 101 3 (.slice (some ⟨wr.heap.size, 0, none⟩) 0 0) 0 [] := World.ownsRow_made wr #[] 0 (Nat.le_refl _) (by unfold maxLen; omega) rfl
        have hbl : Below wr.heap.size wr (wr.alloc (.cells #[] 101)) := (Below.refl _ wr).alloc (Nat.le_refl _) _
        have HFR := hid (HFO.out.below HBR.out)
        obtain ⟨hf0, hc0⟩ := fl_none HFR.out
        have hL0 : g.flows.length = 0 := by rw [hf0]; rfl
        have HN0 := hid (show n = 0 by omega)
        have HL0 := hid hL0
        have hnc : n ≤ cf := by omega
        have hrow4 : ∀ c, Ap.Row (wr.alloc (.cells #[] 101)) 3 (.slice none n c) n ((flat (fun j => flcell (FJ g.flows j) (F j)) g.flows.length).take (n * 3)) := fun c => row_zero HN0.out (by rw [HN0.out]; simp)
        clear hbl hf0 hL0 hc0
        go_wp2_with (at_builtin; go_must (refine Ap.wpList_any _ rfl _ _ 25 rfl wr.heap.size 101 i0 _ 3 40 Tryz.underlying25 hi hx0 hx1 hx2 rfl (by omega) (.slice (some ⟨wr.heap.size, 0, none⟩) 0 0) 0 [] rfl hown4 _ n ((flat (fun j => flcell (FJ g.flows j) (F j)) g.flows.length).take (n * 3)) rfl (hrow4 _) (by unfold maxLen; omega) (by omega) (by simp) (wr.heap.size + 1) (by simp) ?_); intro a4 c4 w4 hown5 hgrow4 hat4)
        simp only [Nat.zero_add, List.nil_append] at hown5
        have HB4 : Hid (Below wr.heap.size wr w4) := hid ((((Below.refl _ wr).alloc (Nat.le_refl _) _)).grown hgrow4 (by simp) (fun b e => by cases e; exact Nat.le_refl _))
        have d1 := old_cell HB4.out zr c1
        have df := old_free HB4.out zr cf1
        have x0 := old_cell HB4.out (Nat.lt_of_lt_of_le zx HBR.out.size) (old_cell HBR.out zx k0)
        have x1 := old_cell HB4.out (Nat.lt_of_lt_of_le zx HBR.out.size) (old_cell HBR.out zx k1)
        have x2 := old_cell HB4.out (Nat.lt_of_lt_of_le zx HBR.out.size) (old_cell HBR.out zx k2)
        have z4 := Nat.lt_of_lt_of_le zr HB4.out.size
        have HF4 := hid (HFR.out.below HB4.out)
        clear hgrow4 hat4 hown4 hrow4
        have hal : Below w4.heap.size w4 (w4.alloc (.cells #[.int .i64 x.src, .int .i64 x.dst, .slice a2 x.cond.length c2] 101)).drew := ((Below.refl _ w4).alloc (Nat.le_refl _) _).drew
        have hrow5 : Ap.Row (w4.alloc (.cells #[.int .i64 x.src, .int .i64 x.dst, .slice a2 x.cond.length c2] 101)).drew 3 (.slice (some ⟨w4.heap.size, 0, none⟩) 1 1) 1 (flcell x (.slice a2 x.cond.length c2)) := ⟨_, _, rfl, rfl, (fun u hu => by simp [flcell] at hu; rcases hu with rfl | rfl | rfl <;> rfl), .inr ⟨_, rfl, World.news_of_block (cs := #[.int .i64 x.src, .int .i64 x.dst, .slice a2 x.cond.length c2]) (t := 101) (fr := (0, 0)) (heap_alloc_new w4 _)⟩⟩
        have lw4 : wr.heap.size ≤ w4.heap.size := HB4.out.size
        have zx2 : w2.heap.size < wr.heap.size := Nat.lt_of_lt_of_le zx HBR.out.size
        have HKR : Hid (Thr wr w2.heap.size x (.slice a2 x.cond.length c2)) := hid ⟨old_cell HBR.out zx k0, old_cell HBR.out zx k1, old_cell HBR.out zx k2⟩
        have HZ : Hid (w2.heap.size < wr.heap.size) := hid zx2
        have h43 : Thr w4.drew w2.heap.size x (.slice a2 x.cond.length c2) := ⟨x0, x1, x2⟩
        have y1 : w4.drew.cell? ⟨P, 1, none⟩ = some (.slice none g.flows.length cf) := d1
        have hA3 : Thr (w4.alloc (.cells #[.int .i64 x.src, .int .i64 x.dst, .slice a2 x.cond.length c2] 101)).drew w2.heap.size x (.slice a2 x.cond.length c2) := ⟨old_cell hal (by omega) x0, old_cell hal (by omega) x1, old_cell hal (by omega) x2⟩
        have y2 : (w4.alloc (.cells #[.int .i64 x.src, .int .i64 x.dst, .slice a2 x.cond.length c2] 101)).drew.cell? ⟨P, 1, none⟩ = some (.slice none g.flows.length cf) := old_cell hal z4 d1
        have hPX : P ≠ w2.heap.size := by have := HB2.out.size; omega
        refine wp_region_held_drew (S := fun wx => Thr wx w2.heap.size x (.slice a2 x.cond.length c2)) (by kernel_rfl) h43 (fun hHeld => ?_)
        refine wpAnyH_take (i := 0) (oi := { dst := some 46, op := Go.Op.move (Go.Operand.tmp 0), type := 76, pos := "l06_graph.go:14", after := #[], guard := none }) (v := .pointer (some ⟨P, 0, none⟩)) rfl (by kernel_rfl) (by kernel_rfl) (by kernel_rfl) (fun _ _ _ h => h) (Or.inl ⟨by rfl, by intro w hSw; (try dsimp only at hSw); obtain ⟨s0, s1, s2⟩ := hSw; go_simp⟩) (by assumption) ?_
        simp only [Act.put, List.setIfInBounds_toArray, List.set_cons_zero, List.set_cons_succ]
        refine wpAnyH_take (i := 1) (oi := { dst := some 47, op := Go.Op.move (Go.Operand.tmp 10), type := 25, pos := "l06_graph.go:14", after := #[], guard := none }) (v := .slice a4 n c4) rfl (by kernel_rfl) (by kernel_rfl) (by kernel_rfl) (fun _ _ _ h => h) (Or.inl ⟨by rfl, by intro w hSw; (try dsimp only at hSw); obtain ⟨s0, s1, s2⟩ := hSw; go_simp⟩) (by assumption) ?_
        simp only [Act.put, List.setIfInBounds_toArray, List.set_cons_zero, List.set_cons_succ]
        refine wpAnyH_take (i := 2) (oi := { dst := some 48, op := Go.Op.load 101 (Go.Operand.tmp 8), type := 101, pos := "l06_graph.go:14", after := #[], guard := none }) (v := .agg #[.int .i64 x.src, .int .i64 x.dst, .slice a2 x.cond.length c2]) rfl (by kernel_rfl) (by kernel_rfl) (by kernel_rfl) (fun _ _ _ h => h) (Or.inl ⟨by rfl, by intro w hSw; (try dsimp only at hSw); obtain ⟨s0, s1, s2⟩ := hSw; go_simp⟩) (by assumption) ?_
        simp only [Act.put, List.setIfInBounds_toArray, List.set_cons_zero, List.set_cons_succ]
        refine wpAnyH_take (i := 5) (oi := { dst := some 51, op := Go.Op.move (Go.Operand.tmp 0), type := 76, pos := "l06_graph.go:14", after := #[], guard := none }) (v := .pointer (some ⟨P, 0, none⟩)) rfl (by kernel_rfl) (by kernel_rfl) (by kernel_rfl) (fun _ _ _ h => h) (Or.inl ⟨by rfl, by intro w hSw; (try dsimp only at hSw); obtain ⟨s0, s1, s2⟩ := hSw; go_simp⟩) (by assumption) ?_
        simp only [Act.put, List.setIfInBounds_toArray, List.set_cons_zero, List.set_cons_succ]
        refine wpAnyH_take (i := 6) (oi := { dst := some 52, op := Go.Op.nilCheck (Go.Operand.tmp 51), type := 0, pos := "l06_graph.go:14", after := #[{ on := 5, ground := Go.Ground.data }], guard := none }) (v := .pointer (some ⟨P, 0, none⟩)) rfl (by kernel_rfl) (by kernel_rfl) (by kernel_rfl) (fun _ _ _ h => h) (Or.inl ⟨by rfl, by intro w hSw; (try dsimp only at hSw); obtain ⟨s0, s1, s2⟩ := hSw; go_simp⟩) (by assumption) ?_
        simp only [Act.put, List.setIfInBounds_toArray, List.set_cons_zero, List.set_cons_succ]
        refine wpAnyH_take (i := 7) (oi := { dst := some 53, op := Go.Op.fieldAddr 27 (Go.Operand.tmp 52) 1, type := 0, pos := "l06_graph.go:14", after := #[{ on := 6, ground := Go.Ground.data }], guard := none }) (v := .pointer (some ⟨P, 1, none⟩)) rfl (by kernel_rfl) (by kernel_rfl) (by kernel_rfl) (fun _ _ _ h => h) (Or.inl ⟨by rfl, by intro w hSw; (try dsimp only at hSw); obtain ⟨s0, s1, s2⟩ := hSw; go_simp⟩) (by assumption) ?_
        simp only [Act.put, List.setIfInBounds_toArray, List.set_cons_zero, List.set_cons_succ]
        refine wpAnyH_take (i := 9) (oi := { dst := some 55, op := Go.Op.move (Go.Operand.tmp 9), type := 3, pos := "l06_graph.go:14", after := #[], guard := none }) (v := .int .i64 (n : Int)) rfl (by kernel_rfl) (by kernel_rfl) (by kernel_rfl) (fun _ _ _ h => h) (Or.inl ⟨by rfl, by intro w hSw; (try dsimp only at hSw); obtain ⟨s0, s1, s2⟩ := hSw; go_simp⟩) (by assumption) ?_
        simp only [Act.put, List.setIfInBounds_toArray, List.set_cons_zero, List.set_cons_succ]
        refine wpAnyH_ready (rs := [3, 8]) (by kernel_rfl) (by simp) ?_
        refine (AllReadyH.cons (o := { dst := some 49, op := Go.Op.buildSlice 25 1 #[(0, Go.Operand.tmp 48)], type := 25, pos := "l06_graph.go:14", after := #[{ on := 2, ground := Go.Ground.data }], guard := none }) rfl (fun K hK => ?_) (AllReadyH.cons (o := { dst := some 54, op := Go.Op.load 25 (Go.Operand.tmp 53), type := 25, pos := "l06_graph.go:14", after := #[{ on := 7, ground := Go.Ground.data }], guard := none }) rfl (fun K hK => ?_) AllReadyH.nil))
        · go_simp
          refine hK.out _ _ hA3 (fun hHeld => ?_)
          clear hK K
          try simp only [Act.put, List.setIfInBounds_toArray, List.set_cons_zero, List.set_cons_succ]
          refine wpAnyH_ready (rs := [4, 8]) (by kernel_rfl) (by simp) ?_
          refine (AllReadyH.cons (o := { dst := some 50, op := Go.Op.call { callee := Go.Callee.builtin Go.Builtin.append, args := #[Go.Operand.tmp 47, Go.Operand.tmp 49], argTypes := #[25, 25] }, type := 25, pos := "l06_graph.go:14", after := #[{ on := 1, ground := Go.Ground.data }, { on := 3, ground := Go.Ground.data }], guard := none }) rfl (fun K hK => ?_) (AllReadyH.cons (o := { dst := some 54, op := Go.Op.load 25 (Go.Operand.tmp 53), type := 25, pos := "l06_graph.go:14", after := #[{ on := 7, ground := Go.Ground.data }], guard := none }) rfl (fun K hK => ?_) AllReadyH.nil))
          · refine Ap.step_any _ (by rfl) _ _ 25 (by rfl) wr.heap.size 101 i0 _ 3 40 Tryz.underlying25 hi hx0 hx1 hx2 rfl (by omega) (.slice a4 n c4) n ((flat (fun j => flcell (FJ g.flows j) (F j)) g.flows.length).take (n * 3)) (by rfl) ((hown5.alloc _).drew) (.slice (some ⟨w4.heap.size, 0, none⟩) 1 1) 1 (flcell x (.slice a2 x.cond.length c2)) (by rfl) hrow5 (by unfold maxLen; omega) (by omega) (by simp; omega) (w4.heap.size + 1) (by simp) ?_
            intro a5 c5 w5 hown6 hgrow5 hat5
            have hB5 : Below wr.heap.size wr w5 := (HB4.out.trans (hal.mono HB4.out.size)).grown hgrow5 (by simp; omega) (fun b e => (Nst.own_lt hown5 e).1)
            have h53 := HKR.out.below hB5
            have e1 := old_cell hB5 zr c1
            have ef := old_free hB5 zr cf1
            have hrow6 := (show Ap.Row w5 3 (.slice none (g.flows.length - n) (cf - n)) (g.flows.length - n) ((flat (fun j => flcell (FJ g.flows j) (F j)) g.flows.length).drop (n * 3)) from row_zero (by omega) (List.drop_eq_nil_of_le (by rw [fl_len]; omega)))
            refine hK.out _ _ h53 (fun hHeld => ?_)
            clear hK K
            try simp only [Act.put, List.setIfInBounds_toArray, List.set_cons_zero, List.set_cons_succ]
            refine wpAnyH_ready (rs := [8]) (by kernel_rfl) (by simp) ?_
            refine (AllReadyH.cons (o := { dst := some 54, op := Go.Op.load 25 (Go.Operand.tmp 53), type := 25, pos := "l06_graph.go:14", after := #[{ on := 7, ground := Go.Ground.data }], guard := none }) rfl (fun K hK => ?_) AllReadyH.nil)
            go_simp
            refine hK.out _ _ h53 (fun hHeld => ?_)
            clear hK K
            try simp only [Act.put, List.setIfInBounds_toArray, List.set_cons_zero, List.set_cons_succ]
            refine wpAnyH_take (i := 10) (oi := { dst := some 56, op := Go.Op.slice 25 (Go.Operand.tmp 54) (some (Go.Operand.tmp 55)) none none, type := 25, pos := "l06_graph.go:14", after := #[{ on := 8, ground := Go.Ground.data }, { on := 9, ground := Go.Ground.data }], guard := none }) (v := .slice none (g.flows.length - n) (cf - n)) rfl (by kernel_rfl) (by kernel_rfl) (by kernel_rfl) (fun _ _ _ h => h) (Or.inl ⟨by rfl, by intro w hSw; (try dsimp only at hSw); obtain ⟨s0, s1, s2⟩ := hSw; go_simp⟩) (by assumption) ?_
            simp only [Act.put, List.setIfInBounds_toArray, List.set_cons_zero, List.set_cons_succ]
            refine wpAnyH_ready (rs := [11]) (by kernel_rfl) (by simp) ?_
            refine (AllReadyH.cons (o := { dst := some 57, op := Go.Op.call { callee := Go.Callee.builtin Go.Builtin.append, args := #[Go.Operand.tmp 50, Go.Operand.tmp 56], argTypes := #[25, 25] }, type := 25, pos := "l06_graph.go:14", after := #[{ on := 4, ground := Go.Ground.data }, { on := 10, ground := Go.Ground.data }, { on := 4, ground := Go.Ground.chain }], guard := none }) rfl (fun K hK => ?_) AllReadyH.nil)
            refine Ap.step_any _ (by rfl) _ _ 25 (by rfl) wr.heap.size 101 i0 _ 3 40 Tryz.underlying25 hi hx0 hx1 hx2 rfl (by omega) (.slice a5 (n + 1) c5) (n + 1) ((flat (fun j => flcell (FJ g.flows j) (F j)) g.flows.length).take (n * 3) ++ flcell x (.slice a2 x.cond.length c2)) (by rfl) hown6 (.slice none (g.flows.length - n) (cf - n)) (g.flows.length - n) ((flat (fun j => flcell (FJ g.flows j) (F j)) g.flows.length).drop (n * 3)) (by rfl) hrow6 (by unfold maxLen; omega) (by omega) hB5.size w5.heap.size rfl ?_
            intro a6 c6 w6 hown7 hgrow6 hat6
            have hB6 : Below wr.heap.size wr w6 := hB5.grown hgrow6 hB5.size (fun b e => (Nst.own_lt hown6 e).1)
            have h63 := HKR.out.below hB6
            have e1 := old_cell hB6 zr c1
            have ef := old_free hB6 zr cf1
            have HO7 := hid hown7
            have HB6 := hid hB6
            refine hK.out _ _ h63 (fun hHeld => ?_)
            clear hK K
            try simp only [Act.put, List.setIfInBounds_toArray, List.set_cons_zero, List.set_cons_succ]
            refine wpAnyH_take (i := 12) (oi := { dst := some 58, op := Go.Op.nilCheck (Go.Operand.tmp 46), type := 0, pos := "l06_graph.go:14", after := #[{ on := 0, ground := Go.Ground.data }, { on := 0, ground := Go.Ground.phase }, { on := 1, ground := Go.Ground.phase }, { on := 2, ground := Go.Ground.phase }, { on := 3, ground := Go.Ground.phase }, { on := 4, ground := Go.Ground.phase }, { on := 5, ground := Go.Ground.phase }, { on := 6, ground := Go.Ground.phase }, { on := 7, ground := Go.Ground.phase }, { on := 8, ground := Go.Ground.phase }, { on := 9, ground := Go.Ground.phase }, { on := 10, ground := Go.Ground.phase }, { on := 11, ground := Go.Ground.phase }], guard := none }) (v := .pointer (some ⟨P, 0, none⟩)) rfl (by kernel_rfl) (by kernel_rfl) (by kernel_rfl) (fun _ _ _ h => h) (Or.inl ⟨by rfl, by intro w hSw; (try dsimp only at hSw); obtain ⟨s0, s1, s2⟩ := hSw; go_simp⟩) (by assumption) ?_
            simp only [Act.put, List.setIfInBounds_toArray, List.set_cons_zero, List.set_cons_succ]
            refine wpAnyH_take (i := 13) (oi := { dst := some 59, op := Go.Op.fieldAddr 27 (Go.Operand.tmp 58) 1, type := 0, pos := "l06_graph.go:14", after := #[{ on := 12, ground := Go.Ground.data }, { on := 0, ground := Go.Ground.phase }, { on := 1, ground := Go.Ground.phase }, { on := 2, ground := Go.Ground.phase }, { on := 3, ground := Go.Ground.phase }, { on := 4, ground := Go.Ground.phase }, { on := 5, ground := Go.Ground.phase }, { on := 6, ground := Go.Ground.phase }, { on := 7, ground := Go.Ground.phase }, { on := 8, ground := Go.Ground.phase }, { on := 9, ground := Go.Ground.phase }, { on := 10, ground := Go.Ground.phase }, { on := 11, ground := Go.Ground.phase }], guard := none }) (v := .pointer (some ⟨P, 1, none⟩)) rfl (by kernel_rfl) (by kernel_rfl) (by kernel_rfl) (fun _ _ _ h => h) (Or.inl ⟨by rfl, by intro w hSw; (try dsimp only at hSw); obtain ⟨s0, s1, s2⟩ := hSw; go_simp⟩) (by assumption) ?_
            simp only [Act.put, List.setIfInBounds_toArray, List.set_cons_zero, List.set_cons_succ]
            refine wpAnyH_ready (rs := [14]) (by kernel_rfl) (by simp) ?_
            refine (AllReadyH.cons (o := { dst := none, op := Go.Op.store 25 (Go.Operand.tmp 59) (Go.Operand.tmp 57), type := 0, pos := "l06_graph.go:14", after := #[{ on := 13, ground := Go.Ground.data }, { on := 11, ground := Go.Ground.data }, { on := 11, ground := Go.Ground.chain }, { on := 0, ground := Go.Ground.phase }, { on := 1, ground := Go.Ground.phase }, { on := 2, ground := Go.Ground.phase }, { on := 3, ground := Go.Ground.phase }, { on := 4, ground := Go.Ground.phase }, { on := 5, ground := Go.Ground.phase }, { on := 6, ground := Go.Ground.phase }, { on := 7, ground := Go.Ground.phase }, { on := 8, ground := Go.Ground.phase }, { on := 9, ground := Go.Ground.phase }, { on := 10, ground := Go.Ground.phase }, { on := 11, ground := Go.Ground.phase }], guard := none }) rfl (fun K hK => ?_) AllReadyH.nil)
            go_simp
            refine hK.out _ _ (h63.set hPX) (fun hHeld => ?_)
            clear hK K
            try simp only [Act.put, List.setIfInBounds_toArray, List.set_cons_zero, List.set_cons_succ]
            refine wpAnyH_done (by kernel_rfl) ?_ _
            clear hgrow5 hgrow6 hat5 hat6 hown6 hown7 e1 ef hB5 hB6 hrow6 h53 h63 hHeld
            go_wp2
            refine bodyPost_end (v := .tuple #[]) (results_none Tryz.results34 _ _ _) rfl ?_
            refine ⟨⟨_, rfl⟩, ?_⟩
            have hs1 := HB6.out.size
            have hbw := HB3.out.trans ((HBR.out.trans (HB6.out.mono HBR.out.size)).mono HB3.out.size)
            have hb3 := HBR.out.trans (HB6.out.mono HBR.out.size)
            have hkl : n + 1 + (g.flows.length - n) = g.flows.length + 1 := by omega
            have ho := HO7.out
            rw [hkl] at ho
            first | rw [hkl] | rw [show n + 1 = g.flows.length + 1 by omega]
            have hfin := HE.out n (.slice a2 x.cond.length c2) (.slice a6 (g.flows.length + 1) c6) w6 hbw hn (owns_keep HV3.out hb3) (Nst.own_mono ho (by have := HB3.out.size; have := HBR.out.size; omega)) (fun b e1 e2 => by have := HVL.out b e1; have := (Nst.own_lt ho e2).1; have := HZ.out; omega)
            unfold linkL
            rw [HPR.out]
            exact hfin
          · go_simp
            refine hK.out _ _ hA3 (fun hHeld => ?_)
            clear hK K
            try simp only [Act.put, List.setIfInBounds_toArray, List.set_cons_zero, List.set_cons_succ]
            refine wpAnyH_take (i := 10) (oi := { dst := some 56, op := Go.Op.slice 25 (Go.Operand.tmp 54) (some (Go.Operand.tmp 55)) none none, type := 25, pos := "l06_graph.go:14", after := #[{ on := 8, ground := Go.Ground.data }, { on := 9, ground := Go.Ground.data }], guard := none }) (v := .slice none (g.flows.length - n) (cf - n)) rfl (by kernel_rfl) (by kernel_rfl) (by kernel_rfl) (fun _ _ _ h => h) (Or.inl ⟨by rfl, by intro w hSw; (try dsimp only at hSw); obtain ⟨s0, s1, s2⟩ := hSw; go_simp⟩) (by assumption) ?_
            simp only [Act.put, List.setIfInBounds_toArray, List.set_cons_zero, List.set_cons_succ]
            refine wpAnyH_ready (rs := [4]) (by kernel_rfl) (by simp) ?_
            refine (AllReadyH.cons (o := { dst := some 50, op := Go.Op.call { callee := Go.Callee.builtin Go.Builtin.append, args := #[Go.Operand.tmp 47, Go.Operand.tmp 49], argTypes := #[25, 25] }, type := 25, pos := "l06_graph.go:14", after := #[{ on := 1, ground := Go.Ground.data }, { on := 3, ground := Go.Ground.data }], guard := none }) rfl (fun K hK => ?_) AllReadyH.nil)
            refine Ap.step_any _ (by rfl) _ _ 25 (by rfl) wr.heap.size 101 i0 _ 3 40 Tryz.underlying25 hi hx0 hx1 hx2 rfl (by omega) (.slice a4 n c4) n ((flat (fun j => flcell (FJ g.flows j) (F j)) g.flows.length).take (n * 3)) (by rfl) ((hown5.alloc _).drew) (.slice (some ⟨w4.heap.size, 0, none⟩) 1 1) 1 (flcell x (.slice a2 x.cond.length c2)) (by rfl) hrow5 (by unfold maxLen; omega) (by omega) (by simp; omega) (w4.heap.size + 1) (by simp) ?_
            intro a5 c5 w5 hown6 hgrow5 hat5
            have hB5 : Below wr.heap.size wr w5 := (HB4.out.trans (hal.mono HB4.out.size)).grown hgrow5 (by simp; omega) (fun b e => (Nst.own_lt hown5 e).1)
            have h53 := HKR.out.below hB5
            have e1 := old_cell hB5 zr c1
            have ef := old_free hB5 zr cf1
            have hrow6 := (show Ap.Row w5 3 (.slice none (g.flows.length - n) (cf - n)) (g.flows.length - n) ((flat (fun j => flcell (FJ g.flows j) (F j)) g.flows.length).drop (n * 3)) from row_zero (by omega) (List.drop_eq_nil_of_le (by rw [fl_len]; omega)))
            refine hK.out _ _ h53 (fun hHeld => ?_)
            clear hK K
            try simp only [Act.put, List.setIfInBounds_toArray, List.set_cons_zero, List.set_cons_succ]
            refine wpAnyH_ready (rs := [11]) (by kernel_rfl) (by simp) ?_
            refine (AllReadyH.cons (o := { dst := some 57, op := Go.Op.call { callee := Go.Callee.builtin Go.Builtin.append, args := #[Go.Operand.tmp 50, Go.Operand.tmp 56], argTypes := #[25, 25] }, type := 25, pos := "l06_graph.go:14", after := #[{ on := 4, ground := Go.Ground.data }, { on := 10, ground := Go.Ground.data }, { on := 4, ground := Go.Ground.chain }], guard := none }) rfl (fun K hK => ?_) AllReadyH.nil)
            refine Ap.step_any _ (by rfl) _ _ 25 (by rfl) wr.heap.size 101 i0 _ 3 40 Tryz.underlying25 hi hx0 hx1 hx2 rfl (by omega) (.slice a5 (n + 1) c5) (n + 1) ((flat (fun j => flcell (FJ g.flows j) (F j)) g.flows.length).take (n * 3) ++ flcell x (.slice a2 x.cond.length c2)) (by rfl) hown6 (.slice none (g.flows.length - n) (cf - n)) (g.flows.length - n) ((flat (fun j => flcell (FJ g.flows j) (F j)) g.flows.length).drop (n * 3)) (by rfl) hrow6 (by unfold maxLen; omega) (by omega) hB5.size w5.heap.size rfl ?_
            intro a6 c6 w6 hown7 hgrow6 hat6
            have hB6 : Below wr.heap.size wr w6 := hB5.grown hgrow6 hB5.size (fun b e => (Nst.own_lt hown6 e).1)
            have h63 := HKR.out.below hB6
            have e1 := old_cell hB6 zr c1
            have ef := old_free hB6 zr cf1
            have HO7 := hid hown7
            have HB6 := hid hB6
            refine hK.out _ _ h63 (fun hHeld => ?_)
            clear hK K
            try simp only [Act.put, List.setIfInBounds_toArray, List.set_cons_zero, List.set_cons_succ]
            refine wpAnyH_take (i := 12) (oi := { dst := some 58, op := Go.Op.nilCheck (Go.Operand.tmp 46), type := 0, pos := "l06_graph.go:14", after := #[{ on := 0, ground := Go.Ground.data }, { on := 0, ground := Go.Ground.phase }, { on := 1, ground := Go.Ground.phase }, { on := 2, ground := Go.Ground.phase }, { on := 3, ground := Go.Ground.phase }, { on := 4, ground := Go.Ground.phase }, { on := 5, ground := Go.Ground.phase }, { on := 6, ground := Go.Ground.phase }, { on := 7, ground := Go.Ground.phase }, { on := 8, ground := Go.Ground.phase }, { on := 9, ground := Go.Ground.phase }, { on := 10, ground := Go.Ground.phase }, { on := 11, ground := Go.Ground.phase }], guard := none }) (v := .pointer (some ⟨P, 0, none⟩)) rfl (by kernel_rfl) (by kernel_rfl) (by kernel_rfl) (fun _ _ _ h => h) (Or.inl ⟨by rfl, by intro w hSw; (try dsimp only at hSw); obtain ⟨s0, s1, s2⟩ := hSw; go_simp⟩) (by assumption) ?_
            simp only [Act.put, List.setIfInBounds_toArray, List.set_cons_zero, List.set_cons_succ]
            refine wpAnyH_take (i := 13) (oi := { dst := some 59, op := Go.Op.fieldAddr 27 (Go.Operand.tmp 58) 1, type := 0, pos := "l06_graph.go:14", after := #[{ on := 12, ground := Go.Ground.data }, { on := 0, ground := Go.Ground.phase }, { on := 1, ground := Go.Ground.phase }, { on := 2, ground := Go.Ground.phase }, { on := 3, ground := Go.Ground.phase }, { on := 4, ground := Go.Ground.phase }, { on := 5, ground := Go.Ground.phase }, { on := 6, ground := Go.Ground.phase }, { on := 7, ground := Go.Ground.phase }, { on := 8, ground := Go.Ground.phase }, { on := 9, ground := Go.Ground.phase }, { on := 10, ground := Go.Ground.phase }, { on := 11, ground := Go.Ground.phase }], guard := none }) (v := .pointer (some ⟨P, 1, none⟩)) rfl (by kernel_rfl) (by kernel_rfl) (by kernel_rfl) (fun _ _ _ h => h) (Or.inl ⟨by rfl, by intro w hSw; (try dsimp only at hSw); obtain ⟨s0, s1, s2⟩ := hSw; go_simp⟩) (by assumption) ?_
            simp only [Act.put, List.setIfInBounds_toArray, List.set_cons_zero, List.set_cons_succ]
            refine wpAnyH_ready (rs := [14]) (by kernel_rfl) (by simp) ?_
            refine (AllReadyH.cons (o := { dst := none, op := Go.Op.store 25 (Go.Operand.tmp 59) (Go.Operand.tmp 57), type := 0, pos := "l06_graph.go:14", after := #[{ on := 13, ground := Go.Ground.data }, { on := 11, ground := Go.Ground.data }, { on := 11, ground := Go.Ground.chain }, { on := 0, ground := Go.Ground.phase }, { on := 1, ground := Go.Ground.phase }, { on := 2, ground := Go.Ground.phase }, { on := 3, ground := Go.Ground.phase }, { on := 4, ground := Go.Ground.phase }, { on := 5, ground := Go.Ground.phase }, { on := 6, ground := Go.Ground.phase }, { on := 7, ground := Go.Ground.phase }, { on := 8, ground := Go.Ground.phase }, { on := 9, ground := Go.Ground.phase }, { on := 10, ground := Go.Ground.phase }, { on := 11, ground := Go.Ground.phase }], guard := none }) rfl (fun K hK => ?_) AllReadyH.nil)
            go_simp
            refine hK.out _ _ (h63.set hPX) (fun hHeld => ?_)
            clear hK K
            try simp only [Act.put, List.setIfInBounds_toArray, List.set_cons_zero, List.set_cons_succ]
            refine wpAnyH_done (by kernel_rfl) ?_ _
            clear hgrow5 hgrow6 hat5 hat6 hown6 hown7 e1 ef hB5 hB6 hrow6 h53 h63 hHeld
            go_wp2
            refine bodyPost_end (v := .tuple #[]) (results_none Tryz.results34 _ _ _) rfl ?_
            refine ⟨⟨_, rfl⟩, ?_⟩
            have hs1 := HB6.out.size
            have hbw := HB3.out.trans ((HBR.out.trans (HB6.out.mono HBR.out.size)).mono HB3.out.size)
            have hb3 := HBR.out.trans (HB6.out.mono HBR.out.size)
            have hkl : n + 1 + (g.flows.length - n) = g.flows.length + 1 := by omega
            have ho := HO7.out
            rw [hkl] at ho
            first | rw [hkl] | rw [show n + 1 = g.flows.length + 1 by omega]
            have hfin := HE.out n (.slice a2 x.cond.length c2) (.slice a6 (g.flows.length + 1) c6) w6 hbw hn (owns_keep HV3.out hb3) (Nst.own_mono ho (by have := HB3.out.size; have := HBR.out.size; omega)) (fun b e1 e2 => by have := HVL.out b e1; have := (Nst.own_lt ho e2).1; have := HZ.out; omega)
            unfold linkL
            rw [HPR.out]
            exact hfin
        · go_simp
          refine hK.out _ _ h43 (fun hHeld => ?_)
          clear hK K
          try simp only [Act.put, List.setIfInBounds_toArray, List.set_cons_zero, List.set_cons_succ]
          refine wpAnyH_take (i := 10) (oi := { dst := some 56, op := Go.Op.slice 25 (Go.Operand.tmp 54) (some (Go.Operand.tmp 55)) none none, type := 25, pos := "l06_graph.go:14", after := #[{ on := 8, ground := Go.Ground.data }, { on := 9, ground := Go.Ground.data }], guard := none }) (v := .slice none (g.flows.length - n) (cf - n)) rfl (by kernel_rfl) (by kernel_rfl) (by kernel_rfl) (fun _ _ _ h => h) (Or.inl ⟨by rfl, by intro w hSw; (try dsimp only at hSw); obtain ⟨s0, s1, s2⟩ := hSw; go_simp⟩) (by assumption) ?_
          simp only [Act.put, List.setIfInBounds_toArray, List.set_cons_zero, List.set_cons_succ]
          refine wpAnyH_ready (rs := [3]) (by kernel_rfl) (by simp) ?_
          refine (AllReadyH.cons (o := { dst := some 49, op := Go.Op.buildSlice 25 1 #[(0, Go.Operand.tmp 48)], type := 25, pos := "l06_graph.go:14", after := #[{ on := 2, ground := Go.Ground.data }], guard := none }) rfl (fun K hK => ?_) AllReadyH.nil)
          go_simp
          refine hK.out _ _ hA3 (fun hHeld => ?_)
          clear hK K
          try simp only [Act.put, List.setIfInBounds_toArray, List.set_cons_zero, List.set_cons_succ]
          refine wpAnyH_ready (rs := [4]) (by kernel_rfl) (by simp) ?_
          refine (AllReadyH.cons (o := { dst := some 50, op := Go.Op.call { callee := Go.Callee.builtin Go.Builtin.append, args := #[Go.Operand.tmp 47, Go.Operand.tmp 49], argTypes := #[25, 25] }, type := 25, pos := "l06_graph.go:14", after := #[{ on := 1, ground := Go.Ground.data }, { on := 3, ground := Go.Ground.data }], guard := none }) rfl (fun K hK => ?_) AllReadyH.nil)
          refine Ap.step_any _ (by rfl) _ _ 25 (by rfl) wr.heap.size 101 i0 _ 3 40 Tryz.underlying25 hi hx0 hx1 hx2 rfl (by omega) (.slice a4 n c4) n ((flat (fun j => flcell (FJ g.flows j) (F j)) g.flows.length).take (n * 3)) (by rfl) ((hown5.alloc _).drew) (.slice (some ⟨w4.heap.size, 0, none⟩) 1 1) 1 (flcell x (.slice a2 x.cond.length c2)) (by rfl) hrow5 (by unfold maxLen; omega) (by omega) (by simp; omega) (w4.heap.size + 1) (by simp) ?_
          intro a5 c5 w5 hown6 hgrow5 hat5
          have hB5 : Below wr.heap.size wr w5 := (HB4.out.trans (hal.mono HB4.out.size)).grown hgrow5 (by simp; omega) (fun b e => (Nst.own_lt hown5 e).1)
          have h53 := HKR.out.below hB5
          have e1 := old_cell hB5 zr c1
          have ef := old_free hB5 zr cf1
          have hrow6 := (show Ap.Row w5 3 (.slice none (g.flows.length - n) (cf - n)) (g.flows.length - n) ((flat (fun j => flcell (FJ g.flows j) (F j)) g.flows.length).drop (n * 3)) from row_zero (by omega) (List.drop_eq_nil_of_le (by rw [fl_len]; omega)))
          refine hK.out _ _ h53 (fun hHeld => ?_)
          clear hK K
          try simp only [Act.put, List.setIfInBounds_toArray, List.set_cons_zero, List.set_cons_succ]
          refine wpAnyH_ready (rs := [11]) (by kernel_rfl) (by simp) ?_
          refine (AllReadyH.cons (o := { dst := some 57, op := Go.Op.call { callee := Go.Callee.builtin Go.Builtin.append, args := #[Go.Operand.tmp 50, Go.Operand.tmp 56], argTypes := #[25, 25] }, type := 25, pos := "l06_graph.go:14", after := #[{ on := 4, ground := Go.Ground.data }, { on := 10, ground := Go.Ground.data }, { on := 4, ground := Go.Ground.chain }], guard := none }) rfl (fun K hK => ?_) AllReadyH.nil)
          refine Ap.step_any _ (by rfl) _ _ 25 (by rfl) wr.heap.size 101 i0 _ 3 40 Tryz.underlying25 hi hx0 hx1 hx2 rfl (by omega) (.slice a5 (n + 1) c5) (n + 1) ((flat (fun j => flcell (FJ g.flows j) (F j)) g.flows.length).take (n * 3) ++ flcell x (.slice a2 x.cond.length c2)) (by rfl) hown6 (.slice none (g.flows.length - n) (cf - n)) (g.flows.length - n) ((flat (fun j => flcell (FJ g.flows j) (F j)) g.flows.length).drop (n * 3)) (by rfl) hrow6 (by unfold maxLen; omega) (by omega) hB5.size w5.heap.size rfl ?_
          intro a6 c6 w6 hown7 hgrow6 hat6
          have hB6 : Below wr.heap.size wr w6 := hB5.grown hgrow6 hB5.size (fun b e => (Nst.own_lt hown6 e).1)
          have h63 := HKR.out.below hB6
          have e1 := old_cell hB6 zr c1
          have ef := old_free hB6 zr cf1
          have HO7 := hid hown7
          have HB6 := hid hB6
          refine hK.out _ _ h63 (fun hHeld => ?_)
          clear hK K
          try simp only [Act.put, List.setIfInBounds_toArray, List.set_cons_zero, List.set_cons_succ]
          refine wpAnyH_take (i := 12) (oi := { dst := some 58, op := Go.Op.nilCheck (Go.Operand.tmp 46), type := 0, pos := "l06_graph.go:14", after := #[{ on := 0, ground := Go.Ground.data }, { on := 0, ground := Go.Ground.phase }, { on := 1, ground := Go.Ground.phase }, { on := 2, ground := Go.Ground.phase }, { on := 3, ground := Go.Ground.phase }, { on := 4, ground := Go.Ground.phase }, { on := 5, ground := Go.Ground.phase }, { on := 6, ground := Go.Ground.phase }, { on := 7, ground := Go.Ground.phase }, { on := 8, ground := Go.Ground.phase }, { on := 9, ground := Go.Ground.phase }, { on := 10, ground := Go.Ground.phase }, { on := 11, ground := Go.Ground.phase }], guard := none }) (v := .pointer (some ⟨P, 0, none⟩)) rfl (by kernel_rfl) (by kernel_rfl) (by kernel_rfl) (fun _ _ _ h => h) (Or.inl ⟨by rfl, by intro w hSw; (try dsimp only at hSw); obtain ⟨s0, s1, s2⟩ := hSw; go_simp⟩) (by assumption) ?_
          simp only [Act.put, List.setIfInBounds_toArray, List.set_cons_zero, List.set_cons_succ]
          refine wpAnyH_take (i := 13) (oi := { dst := some 59, op := Go.Op.fieldAddr 27 (Go.Operand.tmp 58) 1, type := 0, pos := "l06_graph.go:14", after := #[{ on := 12, ground := Go.Ground.data }, { on := 0, ground := Go.Ground.phase }, { on := 1, ground := Go.Ground.phase }, { on := 2, ground := Go.Ground.phase }, { on := 3, ground := Go.Ground.phase }, { on := 4, ground := Go.Ground.phase }, { on := 5, ground := Go.Ground.phase }, { on := 6, ground := Go.Ground.phase }, { on := 7, ground := Go.Ground.phase }, { on := 8, ground := Go.Ground.phase }, { on := 9, ground := Go.Ground.phase }, { on := 10, ground := Go.Ground.phase }, { on := 11, ground := Go.Ground.phase }], guard := none }) (v := .pointer (some ⟨P, 1, none⟩)) rfl (by kernel_rfl) (by kernel_rfl) (by kernel_rfl) (fun _ _ _ h => h) (Or.inl ⟨by rfl, by intro w hSw; (try dsimp only at hSw); obtain ⟨s0, s1, s2⟩ := hSw; go_simp⟩) (by assumption) ?_
          simp only [Act.put, List.setIfInBounds_toArray, List.set_cons_zero, List.set_cons_succ]
          refine wpAnyH_ready (rs := [14]) (by kernel_rfl) (by simp) ?_
          refine (AllReadyH.cons (o := { dst := none, op := Go.Op.store 25 (Go.Operand.tmp 59) (Go.Operand.tmp 57), type := 0, pos := "l06_graph.go:14", after := #[{ on := 13, ground := Go.Ground.data }, { on := 11, ground := Go.Ground.data }, { on := 11, ground := Go.Ground.chain }, { on := 0, ground := Go.Ground.phase }, { on := 1, ground := Go.Ground.phase }, { on := 2, ground := Go.Ground.phase }, { on := 3, ground := Go.Ground.phase }, { on := 4, ground := Go.Ground.phase }, { on := 5, ground := Go.Ground.phase }, { on := 6, ground := Go.Ground.phase }, { on := 7, ground := Go.Ground.phase }, { on := 8, ground := Go.Ground.phase }, { on := 9, ground := Go.Ground.phase }, { on := 10, ground := Go.Ground.phase }, { on := 11, ground := Go.Ground.phase }], guard := none }) rfl (fun K hK => ?_) AllReadyH.nil)
          go_simp
          refine hK.out _ _ (h63.set hPX) (fun hHeld => ?_)
          clear hK K
          try simp only [Act.put, List.setIfInBounds_toArray, List.set_cons_zero, List.set_cons_succ]
          refine wpAnyH_done (by kernel_rfl) ?_ _
          clear hgrow5 hgrow6 hat5 hat6 hown6 hown7 e1 ef hB5 hB6 hrow6 h53 h63 hHeld
          go_wp2
          refine bodyPost_end (v := .tuple #[]) (results_none Tryz.results34 _ _ _) rfl ?_
          refine ⟨⟨_, rfl⟩, ?_⟩
          have hs1 := HB6.out.size
          have hbw := HB3.out.trans ((HBR.out.trans (HB6.out.mono HBR.out.size)).mono HB3.out.size)
          have hb3 := HBR.out.trans (HB6.out.mono HBR.out.size)
          have hkl : n + 1 + (g.flows.length - n) = g.flows.length + 1 := by omega
          have ho := HO7.out
          rw [hkl] at ho
          first | rw [hkl] | rw [show n + 1 = g.flows.length + 1 by omega]
          have hfin := HE.out n (.slice a2 x.cond.length c2) (.slice a6 (g.flows.length + 1) c6) w6 hbw hn (owns_keep HV3.out hb3) (Nst.own_mono ho (by have := HB3.out.size; have := HBR.out.size; omega)) (fun b e1 e2 => by have := HVL.out b e1; have := (Nst.own_lt ho e2).1; have := HZ.out; omega)
          unfold linkL
          rw [HPR.out]
          exact hfin
      | some af =>
        by_cases hcn : cf = n
        · have hcn2 := hcn.symm
          subst hcn2
          clear hcn
          skip
          have hown4 : (wr.alloc (.cells #[] 101)).ownsRow wr.heap.size 101 3 (.slice (some ⟨wr.heap.size, 0, none⟩) 0 0) 0 [] := World.ownsRow_made wr #[] 0 (Nat.le_refl _) (by unfold maxLen; omega) rfl
          have hbl : Below wr.heap.size wr (wr.alloc (.cells #[] 101)) := (Below.refl _ wr).alloc (Nat.le_refl _) _
          have HFR := hid (HFO.out.below HBR.out)
          obtain ⟨hfo, hfc, hfm⟩ := ff_addr HFR.out.row
          obtain ⟨gf, of, sp⟩ := af
          obtain ⟨rfl, rfl⟩ : of = 0 ∧ sp = none := by simpa using hfo
          have hrow4 : ∀ c, Ap.Row (wr.alloc (.cells #[] 101)) 3 (.slice (some ⟨gf, 0, none⟩) n c) n ((flat (fun j => flcell (FJ g.flows j) (F j)) g.flows.length).take (n * 3)) := fun c => Row_kept (fl_head HFR.out hn c) hbl
          clear hbl hfo
          go_wp2_with (at_builtin; go_must (refine Ap.wpList_any _ rfl _ _ 25 rfl wr.heap.size 101 i0 _ 3 40 Tryz.underlying25 hi hx0 hx1 hx2 rfl (by omega) (.slice (some ⟨wr.heap.size, 0, none⟩) 0 0) 0 [] rfl hown4 _ n ((flat (fun j => flcell (FJ g.flows j) (F j)) g.flows.length).take (n * 3)) rfl (hrow4 _) (by unfold maxLen; omega) (by omega) (by simp) (wr.heap.size + 1) (by simp) ?_); intro a4 c4 w4 hown5 hgrow4 hat4)
          simp only [Nat.zero_add, List.nil_append] at hown5
          have HB4 : Hid (Below wr.heap.size wr w4) := hid ((((Below.refl _ wr).alloc (Nat.le_refl _) _)).grown hgrow4 (by simp) (fun b e => by cases e; exact Nat.le_refl _))
          have d1 := old_cell HB4.out zr c1
          have df := old_free HB4.out zr cf1
          have x0 := old_cell HB4.out (Nat.lt_of_lt_of_le zx HBR.out.size) (old_cell HBR.out zx k0)
          have x1 := old_cell HB4.out (Nat.lt_of_lt_of_le zx HBR.out.size) (old_cell HBR.out zx k1)
          have x2 := old_cell HB4.out (Nat.lt_of_lt_of_le zx HBR.out.size) (old_cell HBR.out zx k2)
          have z4 := Nat.lt_of_lt_of_le zr HB4.out.size
          have HF4 := hid (HFR.out.below HB4.out)
          clear hgrow4 hat4 hown4 hrow4
          have hal : Below w4.heap.size w4 (w4.alloc (.cells #[.int .i64 x.src, .int .i64 x.dst, .slice a2 x.cond.length c2] 101)).drew := ((Below.refl _ w4).alloc (Nat.le_refl _) _).drew
          have hrow5 : Ap.Row (w4.alloc (.cells #[.int .i64 x.src, .int .i64 x.dst, .slice a2 x.cond.length c2] 101)).drew 3 (.slice (some ⟨w4.heap.size, 0, none⟩) 1 1) 1 (flcell x (.slice a2 x.cond.length c2)) := ⟨_, _, rfl, rfl, (fun u hu => by simp [flcell] at hu; rcases hu with rfl | rfl | rfl <;> rfl), .inr ⟨_, rfl, World.news_of_block (cs := #[.int .i64 x.src, .int .i64 x.dst, .slice a2 x.cond.length c2]) (t := 101) (fr := (0, 0)) (heap_alloc_new w4 _)⟩⟩
          have lw4 : wr.heap.size ≤ w4.heap.size := HB4.out.size
          have zx2 : w2.heap.size < wr.heap.size := Nat.lt_of_lt_of_le zx HBR.out.size
          have HKR : Hid (Thr wr w2.heap.size x (.slice a2 x.cond.length c2)) := hid ⟨old_cell HBR.out zx k0, old_cell HBR.out zx k1, old_cell HBR.out zx k2⟩
          have HZ : Hid (w2.heap.size < wr.heap.size) := hid zx2
          have h43 : Thr w4.drew w2.heap.size x (.slice a2 x.cond.length c2) := ⟨x0, x1, x2⟩
          have y1 : w4.drew.cell? ⟨P, 1, none⟩ = some (.slice (some ⟨gf, 0, none⟩) g.flows.length n) := d1
          have hA3 : Thr (w4.alloc (.cells #[.int .i64 x.src, .int .i64 x.dst, .slice a2 x.cond.length c2] 101)).drew w2.heap.size x (.slice a2 x.cond.length c2) := ⟨old_cell hal (by omega) x0, old_cell hal (by omega) x1, old_cell hal (by omega) x2⟩
          have y2 : (w4.alloc (.cells #[.int .i64 x.src, .int .i64 x.dst, .slice a2 x.cond.length c2] 101)).drew.cell? ⟨P, 1, none⟩ = some (.slice (some ⟨gf, 0, none⟩) g.flows.length n) := old_cell hal z4 d1
          have hPX : P ≠ w2.heap.size := by have := HB2.out.size; omega
          refine wp_region_held_drew (S := fun wx => Thr wx w2.heap.size x (.slice a2 x.cond.length c2)) (by kernel_rfl) h43 (fun hHeld => ?_)
          refine wpAnyH_take (i := 0) (oi := { dst := some 46, op := Go.Op.move (Go.Operand.tmp 0), type := 76, pos := "l06_graph.go:14", after := #[], guard := none }) (v := .pointer (some ⟨P, 0, none⟩)) rfl (by kernel_rfl) (by kernel_rfl) (by kernel_rfl) (fun _ _ _ h => h) (Or.inl ⟨by rfl, by intro w hSw; (try dsimp only at hSw); obtain ⟨s0, s1, s2⟩ := hSw; go_simp⟩) (by assumption) ?_
          simp only [Act.put, List.setIfInBounds_toArray, List.set_cons_zero, List.set_cons_succ]
          refine wpAnyH_take (i := 1) (oi := { dst := some 47, op := Go.Op.move (Go.Operand.tmp 10), type := 25, pos := "l06_graph.go:14", after := #[], guard := none }) (v := .slice a4 n c4) rfl (by kernel_rfl) (by kernel_rfl) (by kernel_rfl) (fun _ _ _ h => h) (Or.inl ⟨by rfl, by intro w hSw; (try dsimp only at hSw); obtain ⟨s0, s1, s2⟩ := hSw; go_simp⟩) (by assumption) ?_
          simp only [Act.put, List.setIfInBounds_toArray, List.set_cons_zero, List.set_cons_succ]
          refine wpAnyH_take (i := 2) (oi := { dst := some 48, op := Go.Op.load 101 (Go.Operand.tmp 8), type := 101, pos := "l06_graph.go:14", after := #[], guard := none }) (v := .agg #[.int .i64 x.src, .int .i64 x.dst, .slice a2 x.cond.length c2]) rfl (by kernel_rfl) (by kernel_rfl) (by kernel_rfl) (fun _ _ _ h => h) (Or.inl ⟨by rfl, by intro w hSw; (try dsimp only at hSw); obtain ⟨s0, s1, s2⟩ := hSw; go_simp⟩) (by assumption) ?_
          simp only [Act.put, List.setIfInBounds_toArray, List.set_cons_zero, List.set_cons_succ]
          refine wpAnyH_take (i := 5) (oi := { dst := some 51, op := Go.Op.move (Go.Operand.tmp 0), type := 76, pos := "l06_graph.go:14", after := #[], guard := none }) (v := .pointer (some ⟨P, 0, none⟩)) rfl (by kernel_rfl) (by kernel_rfl) (by kernel_rfl) (fun _ _ _ h => h) (Or.inl ⟨by rfl, by intro w hSw; (try dsimp only at hSw); obtain ⟨s0, s1, s2⟩ := hSw; go_simp⟩) (by assumption) ?_
          simp only [Act.put, List.setIfInBounds_toArray, List.set_cons_zero, List.set_cons_succ]
          refine wpAnyH_take (i := 6) (oi := { dst := some 52, op := Go.Op.nilCheck (Go.Operand.tmp 51), type := 0, pos := "l06_graph.go:14", after := #[{ on := 5, ground := Go.Ground.data }], guard := none }) (v := .pointer (some ⟨P, 0, none⟩)) rfl (by kernel_rfl) (by kernel_rfl) (by kernel_rfl) (fun _ _ _ h => h) (Or.inl ⟨by rfl, by intro w hSw; (try dsimp only at hSw); obtain ⟨s0, s1, s2⟩ := hSw; go_simp⟩) (by assumption) ?_
          simp only [Act.put, List.setIfInBounds_toArray, List.set_cons_zero, List.set_cons_succ]
          refine wpAnyH_take (i := 7) (oi := { dst := some 53, op := Go.Op.fieldAddr 27 (Go.Operand.tmp 52) 1, type := 0, pos := "l06_graph.go:14", after := #[{ on := 6, ground := Go.Ground.data }], guard := none }) (v := .pointer (some ⟨P, 1, none⟩)) rfl (by kernel_rfl) (by kernel_rfl) (by kernel_rfl) (fun _ _ _ h => h) (Or.inl ⟨by rfl, by intro w hSw; (try dsimp only at hSw); obtain ⟨s0, s1, s2⟩ := hSw; go_simp⟩) (by assumption) ?_
          simp only [Act.put, List.setIfInBounds_toArray, List.set_cons_zero, List.set_cons_succ]
          refine wpAnyH_take (i := 9) (oi := { dst := some 55, op := Go.Op.move (Go.Operand.tmp 9), type := 3, pos := "l06_graph.go:14", after := #[], guard := none }) (v := .int .i64 (n : Int)) rfl (by kernel_rfl) (by kernel_rfl) (by kernel_rfl) (fun _ _ _ h => h) (Or.inl ⟨by rfl, by intro w hSw; (try dsimp only at hSw); obtain ⟨s0, s1, s2⟩ := hSw; go_simp⟩) (by assumption) ?_
          simp only [Act.put, List.setIfInBounds_toArray, List.set_cons_zero, List.set_cons_succ]
          refine wpAnyH_ready (rs := [3, 8]) (by kernel_rfl) (by simp) ?_
          refine (AllReadyH.cons (o := { dst := some 49, op := Go.Op.buildSlice 25 1 #[(0, Go.Operand.tmp 48)], type := 25, pos := "l06_graph.go:14", after := #[{ on := 2, ground := Go.Ground.data }], guard := none }) rfl (fun K hK => ?_) (AllReadyH.cons (o := { dst := some 54, op := Go.Op.load 25 (Go.Operand.tmp 53), type := 25, pos := "l06_graph.go:14", after := #[{ on := 7, ground := Go.Ground.data }], guard := none }) rfl (fun K hK => ?_) AllReadyH.nil))
          · go_simp
            refine hK.out _ _ hA3 (fun hHeld => ?_)
            clear hK K
            try simp only [Act.put, List.setIfInBounds_toArray, List.set_cons_zero, List.set_cons_succ]
            refine wpAnyH_ready (rs := [4, 8]) (by kernel_rfl) (by simp) ?_
            refine (AllReadyH.cons (o := { dst := some 50, op := Go.Op.call { callee := Go.Callee.builtin Go.Builtin.append, args := #[Go.Operand.tmp 47, Go.Operand.tmp 49], argTypes := #[25, 25] }, type := 25, pos := "l06_graph.go:14", after := #[{ on := 1, ground := Go.Ground.data }, { on := 3, ground := Go.Ground.data }], guard := none }) rfl (fun K hK => ?_) (AllReadyH.cons (o := { dst := some 54, op := Go.Op.load 25 (Go.Operand.tmp 53), type := 25, pos := "l06_graph.go:14", after := #[{ on := 7, ground := Go.Ground.data }], guard := none }) rfl (fun K hK => ?_) AllReadyH.nil))
            · refine Ap.step_any _ (by rfl) _ _ 25 (by rfl) wr.heap.size 101 i0 _ 3 40 Tryz.underlying25 hi hx0 hx1 hx2 rfl (by omega) (.slice a4 n c4) n ((flat (fun j => flcell (FJ g.flows j) (F j)) g.flows.length).take (n * 3)) (by rfl) ((hown5.alloc _).drew) (.slice (some ⟨w4.heap.size, 0, none⟩) 1 1) 1 (flcell x (.slice a2 x.cond.length c2)) (by rfl) hrow5 (by unfold maxLen; omega) (by omega) (by simp; omega) (w4.heap.size + 1) (by simp) ?_
              intro a5 c5 w5 hown6 hgrow5 hat5
              have hB5 : Below wr.heap.size wr w5 := (HB4.out.trans (hal.mono HB4.out.size)).grown hgrow5 (by simp; omega) (fun b e => (Nst.own_lt hown5 e).1)
              have h53 := HKR.out.below hB5
              have e1 := old_cell hB5 zr c1
              have ef := old_free hB5 zr cf1
              have hrow6 := (show Ap.Row w5 3 (.slice (some ⟨gf, 0, none⟩) 0 0) 0 ((flat (fun j => flcell (FJ g.flows j) (F j)) g.flows.length).drop (n * 3)) from row_zero rfl (List.drop_eq_nil_of_le (by rw [fl_len]; omega)))
              refine hK.out _ _ h53 (fun hHeld => ?_)
              clear hK K
              try simp only [Act.put, List.setIfInBounds_toArray, List.set_cons_zero, List.set_cons_succ]
              refine wpAnyH_ready (rs := [8]) (by kernel_rfl) (by simp) ?_
              refine (AllReadyH.cons (o := { dst := some 54, op := Go.Op.load 25 (Go.Operand.tmp 53), type := 25, pos := "l06_graph.go:14", after := #[{ on := 7, ground := Go.Ground.data }], guard := none }) rfl (fun K hK => ?_) AllReadyH.nil)
              go_simp
              refine hK.out _ _ h53 (fun hHeld => ?_)
              clear hK K
              try simp only [Act.put, List.setIfInBounds_toArray, List.set_cons_zero, List.set_cons_succ]
              refine wpAnyH_take (i := 10) (oi := { dst := some 56, op := Go.Op.slice 25 (Go.Operand.tmp 54) (some (Go.Operand.tmp 55)) none none, type := 25, pos := "l06_graph.go:14", after := #[{ on := 8, ground := Go.Ground.data }, { on := 9, ground := Go.Ground.data }], guard := none }) (v := .slice (some ⟨gf, 0, none⟩) 0 0) rfl (by kernel_rfl) (by kernel_rfl) (by kernel_rfl) (fun _ _ _ h => h) (Or.inl ⟨by rfl, by intro w hSw; (try dsimp only at hSw); obtain ⟨s0, s1, s2⟩ := hSw; go_simp⟩) (by assumption) ?_
              simp only [Act.put, List.setIfInBounds_toArray, List.set_cons_zero, List.set_cons_succ]
              refine wpAnyH_ready (rs := [11]) (by kernel_rfl) (by simp) ?_
              refine (AllReadyH.cons (o := { dst := some 57, op := Go.Op.call { callee := Go.Callee.builtin Go.Builtin.append, args := #[Go.Operand.tmp 50, Go.Operand.tmp 56], argTypes := #[25, 25] }, type := 25, pos := "l06_graph.go:14", after := #[{ on := 4, ground := Go.Ground.data }, { on := 10, ground := Go.Ground.data }, { on := 4, ground := Go.Ground.chain }], guard := none }) rfl (fun K hK => ?_) AllReadyH.nil)
              refine Ap.step_any _ (by rfl) _ _ 25 (by rfl) wr.heap.size 101 i0 _ 3 40 Tryz.underlying25 hi hx0 hx1 hx2 rfl (by omega) (.slice a5 (n + 1) c5) (n + 1) ((flat (fun j => flcell (FJ g.flows j) (F j)) g.flows.length).take (n * 3) ++ flcell x (.slice a2 x.cond.length c2)) (by rfl) hown6 (.slice (some ⟨gf, 0, none⟩) 0 0) 0 ((flat (fun j => flcell (FJ g.flows j) (F j)) g.flows.length).drop (n * 3)) (by rfl) hrow6 (by unfold maxLen; omega) (by omega) hB5.size w5.heap.size rfl ?_
              intro a6 c6 w6 hown7 hgrow6 hat6
              have hB6 : Below wr.heap.size wr w6 := hB5.grown hgrow6 hB5.size (fun b e => (Nst.own_lt hown6 e).1)
              have h63 := HKR.out.below hB6
              have e1 := old_cell hB6 zr c1
              have ef := old_free hB6 zr cf1
              have HO7 := hid hown7
              have HB6 := hid hB6
              refine hK.out _ _ h63 (fun hHeld => ?_)
              clear hK K
              try simp only [Act.put, List.setIfInBounds_toArray, List.set_cons_zero, List.set_cons_succ]
              refine wpAnyH_take (i := 12) (oi := { dst := some 58, op := Go.Op.nilCheck (Go.Operand.tmp 46), type := 0, pos := "l06_graph.go:14", after := #[{ on := 0, ground := Go.Ground.data }, { on := 0, ground := Go.Ground.phase }, { on := 1, ground := Go.Ground.phase }, { on := 2, ground := Go.Ground.phase }, { on := 3, ground := Go.Ground.phase }, { on := 4, ground := Go.Ground.phase }, { on := 5, ground := Go.Ground.phase }, { on := 6, ground := Go.Ground.phase }, { on := 7, ground := Go.Ground.phase }, { on := 8, ground := Go.Ground.phase }, { on := 9, ground := Go.Ground.phase }, { on := 10, ground := Go.Ground.phase }, { on := 11, ground := Go.Ground.phase }], guard := none }) (v := .pointer (some ⟨P, 0, none⟩)) rfl (by kernel_rfl) (by kernel_rfl) (by kernel_rfl) (fun _ _ _ h => h) (Or.inl ⟨by rfl, by intro w hSw; (try dsimp only at hSw); obtain ⟨s0, s1, s2⟩ := hSw; go_simp⟩) (by assumption) ?_
              simp only [Act.put, List.setIfInBounds_toArray, List.set_cons_zero, List.set_cons_succ]
              refine wpAnyH_take (i := 13) (oi := { dst := some 59, op := Go.Op.fieldAddr 27 (Go.Operand.tmp 58) 1, type := 0, pos := "l06_graph.go:14", after := #[{ on := 12, ground := Go.Ground.data }, { on := 0, ground := Go.Ground.phase }, { on := 1, ground := Go.Ground.phase }, { on := 2, ground := Go.Ground.phase }, { on := 3, ground := Go.Ground.phase }, { on := 4, ground := Go.Ground.phase }, { on := 5, ground := Go.Ground.phase }, { on := 6, ground := Go.Ground.phase }, { on := 7, ground := Go.Ground.phase }, { on := 8, ground := Go.Ground.phase }, { on := 9, ground := Go.Ground.phase }, { on := 10, ground := Go.Ground.phase }, { on := 11, ground := Go.Ground.phase }], guard := none }) (v := .pointer (some ⟨P, 1, none⟩)) rfl (by kernel_rfl) (by kernel_rfl) (by kernel_rfl) (fun _ _ _ h => h) (Or.inl ⟨by rfl, by intro w hSw; (try dsimp only at hSw); obtain ⟨s0, s1, s2⟩ := hSw; go_simp⟩) (by assumption) ?_
              simp only [Act.put, List.setIfInBounds_toArray, List.set_cons_zero, List.set_cons_succ]
              refine wpAnyH_ready (rs := [14]) (by kernel_rfl) (by simp) ?_
              refine (AllReadyH.cons (o := { dst := none, op := Go.Op.store 25 (Go.Operand.tmp 59) (Go.Operand.tmp 57), type := 0, pos := "l06_graph.go:14", after := #[{ on := 13, ground := Go.Ground.data }, { on := 11, ground := Go.Ground.data }, { on := 11, ground := Go.Ground.chain }, { on := 0, ground := Go.Ground.phase }, { on := 1, ground := Go.Ground.phase }, { on := 2, ground := Go.Ground.phase }, { on := 3, ground := Go.Ground.phase }, { on := 4, ground := Go.Ground.phase }, { on := 5, ground := Go.Ground.phase }, { on := 6, ground := Go.Ground.phase }, { on := 7, ground := Go.Ground.phase }, { on := 8, ground := Go.Ground.phase }, { on := 9, ground := Go.Ground.phase }, { on := 10, ground := Go.Ground.phase }, { on := 11, ground := Go.Ground.phase }], guard := none }) rfl (fun K hK => ?_) AllReadyH.nil)
              go_simp
              refine hK.out _ _ (h63.set hPX) (fun hHeld => ?_)
              clear hK K
              try simp only [Act.put, List.setIfInBounds_toArray, List.set_cons_zero, List.set_cons_succ]
              refine wpAnyH_done (by kernel_rfl) ?_ _
              clear hgrow5 hgrow6 hat5 hat6 hown6 hown7 e1 ef hB5 hB6 hrow6 h53 h63 hHeld
              go_wp2
              refine bodyPost_end (v := .tuple #[]) (results_none Tryz.results34 _ _ _) rfl ?_
              refine ⟨⟨_, rfl⟩, ?_⟩
              have hs1 := HB6.out.size
              have hbw := HB3.out.trans ((HBR.out.trans (HB6.out.mono HBR.out.size)).mono HB3.out.size)
              have hb3 := HBR.out.trans (HB6.out.mono HBR.out.size)
              have hkl : n + 1 + 0 = g.flows.length + 1 := by omega
              have ho := HO7.out
              rw [hkl] at ho
              first | rw [hkl] | rw [show n + 1 = g.flows.length + 1 by omega]
              have hfin := HE.out n (.slice a2 x.cond.length c2) (.slice a6 (g.flows.length + 1) c6) w6 hbw hn (owns_keep HV3.out hb3) (Nst.own_mono ho (by have := HB3.out.size; have := HBR.out.size; omega)) (fun b e1 e2 => by have := HVL.out b e1; have := (Nst.own_lt ho e2).1; have := HZ.out; omega)
              unfold linkL
              rw [HPR.out]
              exact hfin
            · go_simp
              refine hK.out _ _ hA3 (fun hHeld => ?_)
              clear hK K
              try simp only [Act.put, List.setIfInBounds_toArray, List.set_cons_zero, List.set_cons_succ]
              refine wpAnyH_take (i := 10) (oi := { dst := some 56, op := Go.Op.slice 25 (Go.Operand.tmp 54) (some (Go.Operand.tmp 55)) none none, type := 25, pos := "l06_graph.go:14", after := #[{ on := 8, ground := Go.Ground.data }, { on := 9, ground := Go.Ground.data }], guard := none }) (v := .slice (some ⟨gf, 0, none⟩) 0 0) rfl (by kernel_rfl) (by kernel_rfl) (by kernel_rfl) (fun _ _ _ h => h) (Or.inl ⟨by rfl, by intro w hSw; (try dsimp only at hSw); obtain ⟨s0, s1, s2⟩ := hSw; go_simp⟩) (by assumption) ?_
              simp only [Act.put, List.setIfInBounds_toArray, List.set_cons_zero, List.set_cons_succ]
              refine wpAnyH_ready (rs := [4]) (by kernel_rfl) (by simp) ?_
              refine (AllReadyH.cons (o := { dst := some 50, op := Go.Op.call { callee := Go.Callee.builtin Go.Builtin.append, args := #[Go.Operand.tmp 47, Go.Operand.tmp 49], argTypes := #[25, 25] }, type := 25, pos := "l06_graph.go:14", after := #[{ on := 1, ground := Go.Ground.data }, { on := 3, ground := Go.Ground.data }], guard := none }) rfl (fun K hK => ?_) AllReadyH.nil)
              refine Ap.step_any _ (by rfl) _ _ 25 (by rfl) wr.heap.size 101 i0 _ 3 40 Tryz.underlying25 hi hx0 hx1 hx2 rfl (by omega) (.slice a4 n c4) n ((flat (fun j => flcell (FJ g.flows j) (F j)) g.flows.length).take (n * 3)) (by rfl) ((hown5.alloc _).drew) (.slice (some ⟨w4.heap.size, 0, none⟩) 1 1) 1 (flcell x (.slice a2 x.cond.length c2)) (by rfl) hrow5 (by unfold maxLen; omega) (by omega) (by simp; omega) (w4.heap.size + 1) (by simp) ?_
              intro a5 c5 w5 hown6 hgrow5 hat5
              have hB5 : Below wr.heap.size wr w5 := (HB4.out.trans (hal.mono HB4.out.size)).grown hgrow5 (by simp; omega) (fun b e => (Nst.own_lt hown5 e).1)
              have h53 := HKR.out.below hB5
              have e1 := old_cell hB5 zr c1
              have ef := old_free hB5 zr cf1
              have hrow6 := (show Ap.Row w5 3 (.slice (some ⟨gf, 0, none⟩) 0 0) 0 ((flat (fun j => flcell (FJ g.flows j) (F j)) g.flows.length).drop (n * 3)) from row_zero rfl (List.drop_eq_nil_of_le (by rw [fl_len]; omega)))
              refine hK.out _ _ h53 (fun hHeld => ?_)
              clear hK K
              try simp only [Act.put, List.setIfInBounds_toArray, List.set_cons_zero, List.set_cons_succ]
              refine wpAnyH_ready (rs := [11]) (by kernel_rfl) (by simp) ?_
              refine (AllReadyH.cons (o := { dst := some 57, op := Go.Op.call { callee := Go.Callee.builtin Go.Builtin.append, args := #[Go.Operand.tmp 50, Go.Operand.tmp 56], argTypes := #[25, 25] }, type := 25, pos := "l06_graph.go:14", after := #[{ on := 4, ground := Go.Ground.data }, { on := 10, ground := Go.Ground.data }, { on := 4, ground := Go.Ground.chain }], guard := none }) rfl (fun K hK => ?_) AllReadyH.nil)
              refine Ap.step_any _ (by rfl) _ _ 25 (by rfl) wr.heap.size 101 i0 _ 3 40 Tryz.underlying25 hi hx0 hx1 hx2 rfl (by omega) (.slice a5 (n + 1) c5) (n + 1) ((flat (fun j => flcell (FJ g.flows j) (F j)) g.flows.length).take (n * 3) ++ flcell x (.slice a2 x.cond.length c2)) (by rfl) hown6 (.slice (some ⟨gf, 0, none⟩) 0 0) 0 ((flat (fun j => flcell (FJ g.flows j) (F j)) g.flows.length).drop (n * 3)) (by rfl) hrow6 (by unfold maxLen; omega) (by omega) hB5.size w5.heap.size rfl ?_
              intro a6 c6 w6 hown7 hgrow6 hat6
              have hB6 : Below wr.heap.size wr w6 := hB5.grown hgrow6 hB5.size (fun b e => (Nst.own_lt hown6 e).1)
              have h63 := HKR.out.below hB6
              have e1 := old_cell hB6 zr c1
              have ef := old_free hB6 zr cf1
              have HO7 := hid hown7
              have HB6 := hid hB6
              refine hK.out _ _ h63 (fun hHeld => ?_)
              clear hK K
              try simp only [Act.put, List.setIfInBounds_toArray, List.set_cons_zero, List.set_cons_succ]
              refine wpAnyH_take (i := 12) (oi := { dst := some 58, op := Go.Op.nilCheck (Go.Operand.tmp 46), type := 0, pos := "l06_graph.go:14", after := #[{ on := 0, ground := Go.Ground.data }, { on := 0, ground := Go.Ground.phase }, { on := 1, ground := Go.Ground.phase }, { on := 2, ground := Go.Ground.phase }, { on := 3, ground := Go.Ground.phase }, { on := 4, ground := Go.Ground.phase }, { on := 5, ground := Go.Ground.phase }, { on := 6, ground := Go.Ground.phase }, { on := 7, ground := Go.Ground.phase }, { on := 8, ground := Go.Ground.phase }, { on := 9, ground := Go.Ground.phase }, { on := 10, ground := Go.Ground.phase }, { on := 11, ground := Go.Ground.phase }], guard := none }) (v := .pointer (some ⟨P, 0, none⟩)) rfl (by kernel_rfl) (by kernel_rfl) (by kernel_rfl) (fun _ _ _ h => h) (Or.inl ⟨by rfl, by intro w hSw; (try dsimp only at hSw); obtain ⟨s0, s1, s2⟩ := hSw; go_simp⟩) (by assumption) ?_
              simp only [Act.put, List.setIfInBounds_toArray, List.set_cons_zero, List.set_cons_succ]
              refine wpAnyH_take (i := 13) (oi := { dst := some 59, op := Go.Op.fieldAddr 27 (Go.Operand.tmp 58) 1, type := 0, pos := "l06_graph.go:14", after := #[{ on := 12, ground := Go.Ground.data }, { on := 0, ground := Go.Ground.phase }, { on := 1, ground := Go.Ground.phase }, { on := 2, ground := Go.Ground.phase }, { on := 3, ground := Go.Ground.phase }, { on := 4, ground := Go.Ground.phase }, { on := 5, ground := Go.Ground.phase }, { on := 6, ground := Go.Ground.phase }, { on := 7, ground := Go.Ground.phase }, { on := 8, ground := Go.Ground.phase }, { on := 9, ground := Go.Ground.phase }, { on := 10, ground := Go.Ground.phase }, { on := 11, ground := Go.Ground.phase }], guard := none }) (v := .pointer (some ⟨P, 1, none⟩)) rfl (by kernel_rfl) (by kernel_rfl) (by kernel_rfl) (fun _ _ _ h => h) (Or.inl ⟨by rfl, by intro w hSw; (try dsimp only at hSw); obtain ⟨s0, s1, s2⟩ := hSw; go_simp⟩) (by assumption) ?_
              simp only [Act.put, List.setIfInBounds_toArray, List.set_cons_zero, List.set_cons_succ]
              refine wpAnyH_ready (rs := [14]) (by kernel_rfl) (by simp) ?_
              refine (AllReadyH.cons (o := { dst := none, op := Go.Op.store 25 (Go.Operand.tmp 59) (Go.Operand.tmp 57), type := 0, pos := "l06_graph.go:14", after := #[{ on := 13, ground := Go.Ground.data }, { on := 11, ground := Go.Ground.data }, { on := 11, ground := Go.Ground.chain }, { on := 0, ground := Go.Ground.phase }, { on := 1, ground := Go.Ground.phase }, { on := 2, ground := Go.Ground.phase }, { on := 3, ground := Go.Ground.phase }, { on := 4, ground := Go.Ground.phase }, { on := 5, ground := Go.Ground.phase }, { on := 6, ground := Go.Ground.phase }, { on := 7, ground := Go.Ground.phase }, { on := 8, ground := Go.Ground.phase }, { on := 9, ground := Go.Ground.phase }, { on := 10, ground := Go.Ground.phase }, { on := 11, ground := Go.Ground.phase }], guard := none }) rfl (fun K hK => ?_) AllReadyH.nil)
              go_simp
              refine hK.out _ _ (h63.set hPX) (fun hHeld => ?_)
              clear hK K
              try simp only [Act.put, List.setIfInBounds_toArray, List.set_cons_zero, List.set_cons_succ]
              refine wpAnyH_done (by kernel_rfl) ?_ _
              clear hgrow5 hgrow6 hat5 hat6 hown6 hown7 e1 ef hB5 hB6 hrow6 h53 h63 hHeld
              go_wp2
              refine bodyPost_end (v := .tuple #[]) (results_none Tryz.results34 _ _ _) rfl ?_
              refine ⟨⟨_, rfl⟩, ?_⟩
              have hs1 := HB6.out.size
              have hbw := HB3.out.trans ((HBR.out.trans (HB6.out.mono HBR.out.size)).mono HB3.out.size)
              have hb3 := HBR.out.trans (HB6.out.mono HBR.out.size)
              have hkl : n + 1 + 0 = g.flows.length + 1 := by omega
              have ho := HO7.out
              rw [hkl] at ho
              first | rw [hkl] | rw [show n + 1 = g.flows.length + 1 by omega]
              have hfin := HE.out n (.slice a2 x.cond.length c2) (.slice a6 (g.flows.length + 1) c6) w6 hbw hn (owns_keep HV3.out hb3) (Nst.own_mono ho (by have := HB3.out.size; have := HBR.out.size; omega)) (fun b e1 e2 => by have := HVL.out b e1; have := (Nst.own_lt ho e2).1; have := HZ.out; omega)
              unfold linkL
              rw [HPR.out]
              exact hfin
          · go_simp
            refine hK.out _ _ h43 (fun hHeld => ?_)
            clear hK K
            try simp only [Act.put, List.setIfInBounds_toArray, List.set_cons_zero, List.set_cons_succ]
            refine wpAnyH_take (i := 10) (oi := { dst := some 56, op := Go.Op.slice 25 (Go.Operand.tmp 54) (some (Go.Operand.tmp 55)) none none, type := 25, pos := "l06_graph.go:14", after := #[{ on := 8, ground := Go.Ground.data }, { on := 9, ground := Go.Ground.data }], guard := none }) (v := .slice (some ⟨gf, 0, none⟩) 0 0) rfl (by kernel_rfl) (by kernel_rfl) (by kernel_rfl) (fun _ _ _ h => h) (Or.inl ⟨by rfl, by intro w hSw; (try dsimp only at hSw); obtain ⟨s0, s1, s2⟩ := hSw; go_simp⟩) (by assumption) ?_
            simp only [Act.put, List.setIfInBounds_toArray, List.set_cons_zero, List.set_cons_succ]
            refine wpAnyH_ready (rs := [3]) (by kernel_rfl) (by simp) ?_
            refine (AllReadyH.cons (o := { dst := some 49, op := Go.Op.buildSlice 25 1 #[(0, Go.Operand.tmp 48)], type := 25, pos := "l06_graph.go:14", after := #[{ on := 2, ground := Go.Ground.data }], guard := none }) rfl (fun K hK => ?_) AllReadyH.nil)
            go_simp
            refine hK.out _ _ hA3 (fun hHeld => ?_)
            clear hK K
            try simp only [Act.put, List.setIfInBounds_toArray, List.set_cons_zero, List.set_cons_succ]
            refine wpAnyH_ready (rs := [4]) (by kernel_rfl) (by simp) ?_
            refine (AllReadyH.cons (o := { dst := some 50, op := Go.Op.call { callee := Go.Callee.builtin Go.Builtin.append, args := #[Go.Operand.tmp 47, Go.Operand.tmp 49], argTypes := #[25, 25] }, type := 25, pos := "l06_graph.go:14", after := #[{ on := 1, ground := Go.Ground.data }, { on := 3, ground := Go.Ground.data }], guard := none }) rfl (fun K hK => ?_) AllReadyH.nil)
            refine Ap.step_any _ (by rfl) _ _ 25 (by rfl) wr.heap.size 101 i0 _ 3 40 Tryz.underlying25 hi hx0 hx1 hx2 rfl (by omega) (.slice a4 n c4) n ((flat (fun j => flcell (FJ g.flows j) (F j)) g.flows.length).take (n * 3)) (by rfl) ((hown5.alloc _).drew) (.slice (some ⟨w4.heap.size, 0, none⟩) 1 1) 1 (flcell x (.slice a2 x.cond.length c2)) (by rfl) hrow5 (by unfold maxLen; omega) (by omega) (by simp; omega) (w4.heap.size + 1) (by simp) ?_
            intro a5 c5 w5 hown6 hgrow5 hat5
            have hB5 : Below wr.heap.size wr w5 := (HB4.out.trans (hal.mono HB4.out.size)).grown hgrow5 (by simp; omega) (fun b e => (Nst.own_lt hown5 e).1)
            have h53 := HKR.out.below hB5
            have e1 := old_cell hB5 zr c1
            have ef := old_free hB5 zr cf1
            have hrow6 := (show Ap.Row w5 3 (.slice (some ⟨gf, 0, none⟩) 0 0) 0 ((flat (fun j => flcell (FJ g.flows j) (F j)) g.flows.length).drop (n * 3)) from row_zero rfl (List.drop_eq_nil_of_le (by rw [fl_len]; omega)))
            refine hK.out _ _ h53 (fun hHeld => ?_)
            clear hK K
            try simp only [Act.put, List.setIfInBounds_toArray, List.set_cons_zero, List.set_cons_succ]
            refine wpAnyH_ready (rs := [11]) (by kernel_rfl) (by simp) ?_
            refine (AllReadyH.cons (o := { dst := some 57, op := Go.Op.call { callee := Go.Callee.builtin Go.Builtin.append, args := #[Go.Operand.tmp 50, Go.Operand.tmp 56], argTypes := #[25, 25] }, type := 25, pos := "l06_graph.go:14", after := #[{ on := 4, ground := Go.Ground.data }, { on := 10, ground := Go.Ground.data }, { on := 4, ground := Go.Ground.chain }], guard := none }) rfl (fun K hK => ?_) AllReadyH.nil)
            refine Ap.step_any _ (by rfl) _ _ 25 (by rfl) wr.heap.size 101 i0 _ 3 40 Tryz.underlying25 hi hx0 hx1 hx2 rfl (by omega) (.slice a5 (n + 1) c5) (n + 1) ((flat (fun j => flcell (FJ g.flows j) (F j)) g.flows.length).take (n * 3) ++ flcell x (.slice a2 x.cond.length c2)) (by rfl) hown6 (.slice (some ⟨gf, 0, none⟩) 0 0) 0 ((flat (fun j => flcell (FJ g.flows j) (F j)) g.flows.length).drop (n * 3)) (by rfl) hrow6 (by unfold maxLen; omega) (by omega) hB5.size w5.heap.size rfl ?_
            intro a6 c6 w6 hown7 hgrow6 hat6
            have hB6 : Below wr.heap.size wr w6 := hB5.grown hgrow6 hB5.size (fun b e => (Nst.own_lt hown6 e).1)
            have h63 := HKR.out.below hB6
            have e1 := old_cell hB6 zr c1
            have ef := old_free hB6 zr cf1
            have HO7 := hid hown7
            have HB6 := hid hB6
            refine hK.out _ _ h63 (fun hHeld => ?_)
            clear hK K
            try simp only [Act.put, List.setIfInBounds_toArray, List.set_cons_zero, List.set_cons_succ]
            refine wpAnyH_take (i := 12) (oi := { dst := some 58, op := Go.Op.nilCheck (Go.Operand.tmp 46), type := 0, pos := "l06_graph.go:14", after := #[{ on := 0, ground := Go.Ground.data }, { on := 0, ground := Go.Ground.phase }, { on := 1, ground := Go.Ground.phase }, { on := 2, ground := Go.Ground.phase }, { on := 3, ground := Go.Ground.phase }, { on := 4, ground := Go.Ground.phase }, { on := 5, ground := Go.Ground.phase }, { on := 6, ground := Go.Ground.phase }, { on := 7, ground := Go.Ground.phase }, { on := 8, ground := Go.Ground.phase }, { on := 9, ground := Go.Ground.phase }, { on := 10, ground := Go.Ground.phase }, { on := 11, ground := Go.Ground.phase }], guard := none }) (v := .pointer (some ⟨P, 0, none⟩)) rfl (by kernel_rfl) (by kernel_rfl) (by kernel_rfl) (fun _ _ _ h => h) (Or.inl ⟨by rfl, by intro w hSw; (try dsimp only at hSw); obtain ⟨s0, s1, s2⟩ := hSw; go_simp⟩) (by assumption) ?_
            simp only [Act.put, List.setIfInBounds_toArray, List.set_cons_zero, List.set_cons_succ]
            refine wpAnyH_take (i := 13) (oi := { dst := some 59, op := Go.Op.fieldAddr 27 (Go.Operand.tmp 58) 1, type := 0, pos := "l06_graph.go:14", after := #[{ on := 12, ground := Go.Ground.data }, { on := 0, ground := Go.Ground.phase }, { on := 1, ground := Go.Ground.phase }, { on := 2, ground := Go.Ground.phase }, { on := 3, ground := Go.Ground.phase }, { on := 4, ground := Go.Ground.phase }, { on := 5, ground := Go.Ground.phase }, { on := 6, ground := Go.Ground.phase }, { on := 7, ground := Go.Ground.phase }, { on := 8, ground := Go.Ground.phase }, { on := 9, ground := Go.Ground.phase }, { on := 10, ground := Go.Ground.phase }, { on := 11, ground := Go.Ground.phase }], guard := none }) (v := .pointer (some ⟨P, 1, none⟩)) rfl (by kernel_rfl) (by kernel_rfl) (by kernel_rfl) (fun _ _ _ h => h) (Or.inl ⟨by rfl, by intro w hSw; (try dsimp only at hSw); obtain ⟨s0, s1, s2⟩ := hSw; go_simp⟩) (by assumption) ?_
            simp only [Act.put, List.setIfInBounds_toArray, List.set_cons_zero, List.set_cons_succ]
            refine wpAnyH_ready (rs := [14]) (by kernel_rfl) (by simp) ?_
            refine (AllReadyH.cons (o := { dst := none, op := Go.Op.store 25 (Go.Operand.tmp 59) (Go.Operand.tmp 57), type := 0, pos := "l06_graph.go:14", after := #[{ on := 13, ground := Go.Ground.data }, { on := 11, ground := Go.Ground.data }, { on := 11, ground := Go.Ground.chain }, { on := 0, ground := Go.Ground.phase }, { on := 1, ground := Go.Ground.phase }, { on := 2, ground := Go.Ground.phase }, { on := 3, ground := Go.Ground.phase }, { on := 4, ground := Go.Ground.phase }, { on := 5, ground := Go.Ground.phase }, { on := 6, ground := Go.Ground.phase }, { on := 7, ground := Go.Ground.phase }, { on := 8, ground := Go.Ground.phase }, { on := 9, ground := Go.Ground.phase }, { on := 10, ground := Go.Ground.phase }, { on := 11, ground := Go.Ground.phase }], guard := none }) rfl (fun K hK => ?_) AllReadyH.nil)
            go_simp
            refine hK.out _ _ (h63.set hPX) (fun hHeld => ?_)
            clear hK K
            try simp only [Act.put, List.setIfInBounds_toArray, List.set_cons_zero, List.set_cons_succ]
            refine wpAnyH_done (by kernel_rfl) ?_ _
            clear hgrow5 hgrow6 hat5 hat6 hown6 hown7 e1 ef hB5 hB6 hrow6 h53 h63 hHeld
            go_wp2
            refine bodyPost_end (v := .tuple #[]) (results_none Tryz.results34 _ _ _) rfl ?_
            refine ⟨⟨_, rfl⟩, ?_⟩
            have hs1 := HB6.out.size
            have hbw := HB3.out.trans ((HBR.out.trans (HB6.out.mono HBR.out.size)).mono HB3.out.size)
            have hb3 := HBR.out.trans (HB6.out.mono HBR.out.size)
            have hkl : n + 1 + 0 = g.flows.length + 1 := by omega
            have ho := HO7.out
            rw [hkl] at ho
            first | rw [hkl] | rw [show n + 1 = g.flows.length + 1 by omega]
            have hfin := HE.out n (.slice a2 x.cond.length c2) (.slice a6 (g.flows.length + 1) c6) w6 hbw hn (owns_keep HV3.out hb3) (Nst.own_mono ho (by have := HB3.out.size; have := HBR.out.size; omega)) (fun b e1 e2 => by have := HVL.out b e1; have := (Nst.own_lt ho e2).1; have := HZ.out; omega)
            unfold linkL
            rw [HPR.out]
            exact hfin
        · have hown4 : (wr.alloc (.cells #[] 101)).ownsRow wr.heap.size 101 3 (.slice (some ⟨wr.heap.size, 0, none⟩) 0 0) 0 [] := World.ownsRow_made wr #[] 0 (Nat.le_refl _) (by unfold maxLen; omega) rfl
          have hbl : Below wr.heap.size wr (wr.alloc (.cells #[] 101)) := (Below.refl _ wr).alloc (Nat.le_refl _) _
          have HFR := hid (HFO.out.below HBR.out)
          obtain ⟨hfo, hfc, hfm⟩ := ff_addr HFR.out.row
          obtain ⟨gf, of, sp⟩ := af
          obtain ⟨rfl, rfl⟩ : of = 0 ∧ sp = none := by simpa using hfo
          have hrow4 : ∀ c, Ap.Row (wr.alloc (.cells #[] 101)) 3 (.slice (some ⟨gf, 0, none⟩) n c) n ((flat (fun j => flcell (FJ g.flows j) (F j)) g.flows.length).take (n * 3)) := fun c => Row_kept (fl_head HFR.out hn c) hbl
          clear hbl hfo
          skip
          go_wp2_with (at_builtin; go_must (refine Ap.wpList_any _ rfl _ _ 25 rfl wr.heap.size 101 i0 _ 3 40 Tryz.underlying25 hi hx0 hx1 hx2 rfl (by omega) (.slice (some ⟨wr.heap.size, 0, none⟩) 0 0) 0 [] rfl hown4 _ n ((flat (fun j => flcell (FJ g.flows j) (F j)) g.flows.length).take (n * 3)) rfl (hrow4 _) (by unfold maxLen; omega) (by omega) (by simp) (wr.heap.size + 1) (by simp) ?_); intro a4 c4 w4 hown5 hgrow4 hat4)
          simp only [Nat.zero_add, List.nil_append] at hown5
          have HB4 : Hid (Below wr.heap.size wr w4) := hid ((((Below.refl _ wr).alloc (Nat.le_refl _) _)).grown hgrow4 (by simp) (fun b e => by cases e; exact Nat.le_refl _))
          have d1 := old_cell HB4.out zr c1
          have df := old_free HB4.out zr cf1
          have x0 := old_cell HB4.out (Nat.lt_of_lt_of_le zx HBR.out.size) (old_cell HBR.out zx k0)
          have x1 := old_cell HB4.out (Nat.lt_of_lt_of_le zx HBR.out.size) (old_cell HBR.out zx k1)
          have x2 := old_cell HB4.out (Nat.lt_of_lt_of_le zx HBR.out.size) (old_cell HBR.out zx k2)
          have z4 := Nat.lt_of_lt_of_le zr HB4.out.size
          have HF4 := hid (HFR.out.below HB4.out)
          clear hgrow4 hat4 hown4 hrow4
          have hal : Below w4.heap.size w4 (w4.alloc (.cells #[.int .i64 x.src, .int .i64 x.dst, .slice a2 x.cond.length c2] 101)).drew := ((Below.refl _ w4).alloc (Nat.le_refl _) _).drew
          have hrow5 : Ap.Row (w4.alloc (.cells #[.int .i64 x.src, .int .i64 x.dst, .slice a2 x.cond.length c2] 101)).drew 3 (.slice (some ⟨w4.heap.size, 0, none⟩) 1 1) 1 (flcell x (.slice a2 x.cond.length c2)) := ⟨_, _, rfl, rfl, (fun u hu => by simp [flcell] at hu; rcases hu with rfl | rfl | rfl <;> rfl), .inr ⟨_, rfl, World.news_of_block (cs := #[.int .i64 x.src, .int .i64 x.dst, .slice a2 x.cond.length c2]) (t := 101) (fr := (0, 0)) (heap_alloc_new w4 _)⟩⟩
          have lw4 : wr.heap.size ≤ w4.heap.size := HB4.out.size
          have zx2 : w2.heap.size < wr.heap.size := Nat.lt_of_lt_of_le zx HBR.out.size
          have HKR : Hid (Thr wr w2.heap.size x (.slice a2 x.cond.length c2)) := hid ⟨old_cell HBR.out zx k0, old_cell HBR.out zx k1, old_cell HBR.out zx k2⟩
          have HZ : Hid (w2.heap.size < wr.heap.size) := hid zx2
          have h43 : Thr w4.drew w2.heap.size x (.slice a2 x.cond.length c2) := ⟨x0, x1, x2⟩
          have y1 : w4.drew.cell? ⟨P, 1, none⟩ = some (.slice (some ⟨gf, 0, none⟩) g.flows.length cf) := d1
          have hA3 : Thr (w4.alloc (.cells #[.int .i64 x.src, .int .i64 x.dst, .slice a2 x.cond.length c2] 101)).drew w2.heap.size x (.slice a2 x.cond.length c2) := ⟨old_cell hal (by omega) x0, old_cell hal (by omega) x1, old_cell hal (by omega) x2⟩
          have y2 : (w4.alloc (.cells #[.int .i64 x.src, .int .i64 x.dst, .slice a2 x.cond.length c2] 101)).drew.cell? ⟨P, 1, none⟩ = some (.slice (some ⟨gf, 0, none⟩) g.flows.length cf) := old_cell hal z4 d1
          have hPX : P ≠ w2.heap.size := by have := HB2.out.size; omega
          refine wp_region_held_drew (S := fun wx => Thr wx w2.heap.size x (.slice a2 x.cond.length c2)) (by kernel_rfl) h43 (fun hHeld => ?_)
          refine wpAnyH_take (i := 0) (oi := { dst := some 46, op := Go.Op.move (Go.Operand.tmp 0), type := 76, pos := "l06_graph.go:14", after := #[], guard := none }) (v := .pointer (some ⟨P, 0, none⟩)) rfl (by kernel_rfl) (by kernel_rfl) (by kernel_rfl) (fun _ _ _ h => h) (Or.inl ⟨by rfl, by intro w hSw; (try dsimp only at hSw); obtain ⟨s0, s1, s2⟩ := hSw; go_simp⟩) (by assumption) ?_
          simp only [Act.put, List.setIfInBounds_toArray, List.set_cons_zero, List.set_cons_succ]
          refine wpAnyH_take (i := 1) (oi := { dst := some 47, op := Go.Op.move (Go.Operand.tmp 10), type := 25, pos := "l06_graph.go:14", after := #[], guard := none }) (v := .slice a4 n c4) rfl (by kernel_rfl) (by kernel_rfl) (by kernel_rfl) (fun _ _ _ h => h) (Or.inl ⟨by rfl, by intro w hSw; (try dsimp only at hSw); obtain ⟨s0, s1, s2⟩ := hSw; go_simp⟩) (by assumption) ?_
          simp only [Act.put, List.setIfInBounds_toArray, List.set_cons_zero, List.set_cons_succ]
          refine wpAnyH_take (i := 2) (oi := { dst := some 48, op := Go.Op.load 101 (Go.Operand.tmp 8), type := 101, pos := "l06_graph.go:14", after := #[], guard := none }) (v := .agg #[.int .i64 x.src, .int .i64 x.dst, .slice a2 x.cond.length c2]) rfl (by kernel_rfl) (by kernel_rfl) (by kernel_rfl) (fun _ _ _ h => h) (Or.inl ⟨by rfl, by intro w hSw; (try dsimp only at hSw); obtain ⟨s0, s1, s2⟩ := hSw; go_simp⟩) (by assumption) ?_
          simp only [Act.put, List.setIfInBounds_toArray, List.set_cons_zero, List.set_cons_succ]
          refine wpAnyH_take (i := 5) (oi := { dst := some 51, op := Go.Op.move (Go.Operand.tmp 0), type := 76, pos := "l06_graph.go:14", after := #[], guard := none }) (v := .pointer (some ⟨P, 0, none⟩)) rfl (by kernel_rfl) (by kernel_rfl) (by kernel_rfl) (fun _ _ _ h => h) (Or.inl ⟨by rfl, by intro w hSw; (try dsimp only at hSw); obtain ⟨s0, s1, s2⟩ := hSw; go_simp⟩) (by assumption) ?_
          simp only [Act.put, List.setIfInBounds_toArray, List.set_cons_zero, List.set_cons_succ]
          refine wpAnyH_take (i := 6) (oi := { dst := some 52, op := Go.Op.nilCheck (Go.Operand.tmp 51), type := 0, pos := "l06_graph.go:14", after := #[{ on := 5, ground := Go.Ground.data }], guard := none }) (v := .pointer (some ⟨P, 0, none⟩)) rfl (by kernel_rfl) (by kernel_rfl) (by kernel_rfl) (fun _ _ _ h => h) (Or.inl ⟨by rfl, by intro w hSw; (try dsimp only at hSw); obtain ⟨s0, s1, s2⟩ := hSw; go_simp⟩) (by assumption) ?_
          simp only [Act.put, List.setIfInBounds_toArray, List.set_cons_zero, List.set_cons_succ]
          refine wpAnyH_take (i := 7) (oi := { dst := some 53, op := Go.Op.fieldAddr 27 (Go.Operand.tmp 52) 1, type := 0, pos := "l06_graph.go:14", after := #[{ on := 6, ground := Go.Ground.data }], guard := none }) (v := .pointer (some ⟨P, 1, none⟩)) rfl (by kernel_rfl) (by kernel_rfl) (by kernel_rfl) (fun _ _ _ h => h) (Or.inl ⟨by rfl, by intro w hSw; (try dsimp only at hSw); obtain ⟨s0, s1, s2⟩ := hSw; go_simp⟩) (by assumption) ?_
          simp only [Act.put, List.setIfInBounds_toArray, List.set_cons_zero, List.set_cons_succ]
          refine wpAnyH_take (i := 9) (oi := { dst := some 55, op := Go.Op.move (Go.Operand.tmp 9), type := 3, pos := "l06_graph.go:14", after := #[], guard := none }) (v := .int .i64 (n : Int)) rfl (by kernel_rfl) (by kernel_rfl) (by kernel_rfl) (fun _ _ _ h => h) (Or.inl ⟨by rfl, by intro w hSw; (try dsimp only at hSw); obtain ⟨s0, s1, s2⟩ := hSw; go_simp⟩) (by assumption) ?_
          simp only [Act.put, List.setIfInBounds_toArray, List.set_cons_zero, List.set_cons_succ]
          refine wpAnyH_ready (rs := [3, 8]) (by kernel_rfl) (by simp) ?_
          refine (AllReadyH.cons (o := { dst := some 49, op := Go.Op.buildSlice 25 1 #[(0, Go.Operand.tmp 48)], type := 25, pos := "l06_graph.go:14", after := #[{ on := 2, ground := Go.Ground.data }], guard := none }) rfl (fun K hK => ?_) (AllReadyH.cons (o := { dst := some 54, op := Go.Op.load 25 (Go.Operand.tmp 53), type := 25, pos := "l06_graph.go:14", after := #[{ on := 7, ground := Go.Ground.data }], guard := none }) rfl (fun K hK => ?_) AllReadyH.nil))
          · go_simp
            refine hK.out _ _ hA3 (fun hHeld => ?_)
            clear hK K
            try simp only [Act.put, List.setIfInBounds_toArray, List.set_cons_zero, List.set_cons_succ]
            refine wpAnyH_ready (rs := [4, 8]) (by kernel_rfl) (by simp) ?_
            refine (AllReadyH.cons (o := { dst := some 50, op := Go.Op.call { callee := Go.Callee.builtin Go.Builtin.append, args := #[Go.Operand.tmp 47, Go.Operand.tmp 49], argTypes := #[25, 25] }, type := 25, pos := "l06_graph.go:14", after := #[{ on := 1, ground := Go.Ground.data }, { on := 3, ground := Go.Ground.data }], guard := none }) rfl (fun K hK => ?_) (AllReadyH.cons (o := { dst := some 54, op := Go.Op.load 25 (Go.Operand.tmp 53), type := 25, pos := "l06_graph.go:14", after := #[{ on := 7, ground := Go.Ground.data }], guard := none }) rfl (fun K hK => ?_) AllReadyH.nil))
            · refine Ap.step_any _ (by rfl) _ _ 25 (by rfl) wr.heap.size 101 i0 _ 3 40 Tryz.underlying25 hi hx0 hx1 hx2 rfl (by omega) (.slice a4 n c4) n ((flat (fun j => flcell (FJ g.flows j) (F j)) g.flows.length).take (n * 3)) (by rfl) ((hown5.alloc _).drew) (.slice (some ⟨w4.heap.size, 0, none⟩) 1 1) 1 (flcell x (.slice a2 x.cond.length c2)) (by rfl) hrow5 (by unfold maxLen; omega) (by omega) (by simp; omega) (w4.heap.size + 1) (by simp) ?_
              intro a5 c5 w5 hown6 hgrow5 hat5
              have hB5 : Below wr.heap.size wr w5 := (HB4.out.trans (hal.mono HB4.out.size)).grown hgrow5 (by simp; omega) (fun b e => (Nst.own_lt hown5 e).1)
              have h53 := HKR.out.below hB5
              have e1 := old_cell hB5 zr c1
              have ef := old_free hB5 zr cf1
              have hrow6 := fl_tail (HFR.out.below hB5) hn (cf - n)
              refine hK.out _ _ h53 (fun hHeld => ?_)
              clear hK K
              try simp only [Act.put, List.setIfInBounds_toArray, List.set_cons_zero, List.set_cons_succ]
              refine wpAnyH_ready (rs := [8]) (by kernel_rfl) (by simp) ?_
              refine (AllReadyH.cons (o := { dst := some 54, op := Go.Op.load 25 (Go.Operand.tmp 53), type := 25, pos := "l06_graph.go:14", after := #[{ on := 7, ground := Go.Ground.data }], guard := none }) rfl (fun K hK => ?_) AllReadyH.nil)
              go_simp
              refine hK.out _ _ h53 (fun hHeld => ?_)
              clear hK K
              try simp only [Act.put, List.setIfInBounds_toArray, List.set_cons_zero, List.set_cons_succ]
              refine wpAnyH_take (i := 10) (oi := { dst := some 56, op := Go.Op.slice 25 (Go.Operand.tmp 54) (some (Go.Operand.tmp 55)) none none, type := 25, pos := "l06_graph.go:14", after := #[{ on := 8, ground := Go.Ground.data }, { on := 9, ground := Go.Ground.data }], guard := none }) (v := .slice (some ⟨gf, n * 3, none⟩) (g.flows.length - n) (cf - n)) rfl (by kernel_rfl) (by kernel_rfl) (by kernel_rfl) (fun _ _ _ h => h) (Or.inl ⟨by rfl, by intro w hSw; (try dsimp only at hSw); obtain ⟨s0, s1, s2⟩ := hSw; go_simp⟩) (by assumption) ?_
              simp only [Act.put, List.setIfInBounds_toArray, List.set_cons_zero, List.set_cons_succ]
              refine wpAnyH_ready (rs := [11]) (by kernel_rfl) (by simp) ?_
              refine (AllReadyH.cons (o := { dst := some 57, op := Go.Op.call { callee := Go.Callee.builtin Go.Builtin.append, args := #[Go.Operand.tmp 50, Go.Operand.tmp 56], argTypes := #[25, 25] }, type := 25, pos := "l06_graph.go:14", after := #[{ on := 4, ground := Go.Ground.data }, { on := 10, ground := Go.Ground.data }, { on := 4, ground := Go.Ground.chain }], guard := none }) rfl (fun K hK => ?_) AllReadyH.nil)
              refine Ap.step_any _ (by rfl) _ _ 25 (by rfl) wr.heap.size 101 i0 _ 3 40 Tryz.underlying25 hi hx0 hx1 hx2 rfl (by omega) (.slice a5 (n + 1) c5) (n + 1) ((flat (fun j => flcell (FJ g.flows j) (F j)) g.flows.length).take (n * 3) ++ flcell x (.slice a2 x.cond.length c2)) (by rfl) hown6 (.slice (some ⟨gf, n * 3, none⟩) (g.flows.length - n) (cf - n)) (g.flows.length - n) ((flat (fun j => flcell (FJ g.flows j) (F j)) g.flows.length).drop (n * 3)) (by rfl) hrow6 (by unfold maxLen; omega) (by omega) hB5.size w5.heap.size rfl ?_
              intro a6 c6 w6 hown7 hgrow6 hat6
              have hB6 : Below wr.heap.size wr w6 := hB5.grown hgrow6 hB5.size (fun b e => (Nst.own_lt hown6 e).1)
              have h63 := HKR.out.below hB6
              have e1 := old_cell hB6 zr c1
              have ef := old_free hB6 zr cf1
              have HO7 := hid hown7
              have HB6 := hid hB6
              refine hK.out _ _ h63 (fun hHeld => ?_)
              clear hK K
              try simp only [Act.put, List.setIfInBounds_toArray, List.set_cons_zero, List.set_cons_succ]
              refine wpAnyH_take (i := 12) (oi := { dst := some 58, op := Go.Op.nilCheck (Go.Operand.tmp 46), type := 0, pos := "l06_graph.go:14", after := #[{ on := 0, ground := Go.Ground.data }, { on := 0, ground := Go.Ground.phase }, { on := 1, ground := Go.Ground.phase }, { on := 2, ground := Go.Ground.phase }, { on := 3, ground := Go.Ground.phase }, { on := 4, ground := Go.Ground.phase }, { on := 5, ground := Go.Ground.phase }, { on := 6, ground := Go.Ground.phase }, { on := 7, ground := Go.Ground.phase }, { on := 8, ground := Go.Ground.phase }, { on := 9, ground := Go.Ground.phase }, { on := 10, ground := Go.Ground.phase }, { on := 11, ground := Go.Ground.phase }], guard := none }) (v := .pointer (some ⟨P, 0, none⟩)) rfl (by kernel_rfl) (by kernel_rfl) (by kernel_rfl) (fun _ _ _ h => h) (Or.inl ⟨by rfl, by intro w hSw; (try dsimp only at hSw); obtain ⟨s0, s1, s2⟩ := hSw; go_simp⟩) (by assumption) ?_
              simp only [Act.put, List.setIfInBounds_toArray, List.set_cons_zero, List.set_cons_succ]
              refine wpAnyH_take (i := 13) (oi := { dst := some 59, op := Go.Op.fieldAddr 27 (Go.Operand.tmp 58) 1, type := 0, pos := "l06_graph.go:14", after := #[{ on := 12, ground := Go.Ground.data }, { on := 0, ground := Go.Ground.phase }, { on := 1, ground := Go.Ground.phase }, { on := 2, ground := Go.Ground.phase }, { on := 3, ground := Go.Ground.phase }, { on := 4, ground := Go.Ground.phase }, { on := 5, ground := Go.Ground.phase }, { on := 6, ground := Go.Ground.phase }, { on := 7, ground := Go.Ground.phase }, { on := 8, ground := Go.Ground.phase }, { on := 9, ground := Go.Ground.phase }, { on := 10, ground := Go.Ground.phase }, { on := 11, ground := Go.Ground.phase }], guard := none }) (v := .pointer (some ⟨P, 1, none⟩)) rfl (by kernel_rfl) (by kernel_rfl) (by kernel_rfl) (fun _ _ _ h => h) (Or.inl ⟨by rfl, by intro w hSw; (try dsimp only at hSw); obtain ⟨s0, s1, s2⟩ := hSw; go_simp⟩) (by assumption) ?_
              simp only [Act.put, List.setIfInBounds_toArray, List.set_cons_zero, List.set_cons_succ]
              refine wpAnyH_ready (rs := [14]) (by kernel_rfl) (by simp) ?_
              refine (AllReadyH.cons (o := { dst := none, op := Go.Op.store 25 (Go.Operand.tmp 59) (Go.Operand.tmp 57), type := 0, pos := "l06_graph.go:14", after := #[{ on := 13, ground := Go.Ground.data }, { on := 11, ground := Go.Ground.data }, { on := 11, ground := Go.Ground.chain }, { on := 0, ground := Go.Ground.phase }, { on := 1, ground := Go.Ground.phase }, { on := 2, ground := Go.Ground.phase }, { on := 3, ground := Go.Ground.phase }, { on := 4, ground := Go.Ground.phase }, { on := 5, ground := Go.Ground.phase }, { on := 6, ground := Go.Ground.phase }, { on := 7, ground := Go.Ground.phase }, { on := 8, ground := Go.Ground.phase }, { on := 9, ground := Go.Ground.phase }, { on := 10, ground := Go.Ground.phase }, { on := 11, ground := Go.Ground.phase }], guard := none }) rfl (fun K hK => ?_) AllReadyH.nil)
              go_simp
              refine hK.out _ _ (h63.set hPX) (fun hHeld => ?_)
              clear hK K
              try simp only [Act.put, List.setIfInBounds_toArray, List.set_cons_zero, List.set_cons_succ]
              refine wpAnyH_done (by kernel_rfl) ?_ _
              clear hgrow5 hgrow6 hat5 hat6 hown6 hown7 e1 ef hB5 hB6 hrow6 h53 h63 hHeld
              go_wp2
              refine bodyPost_end (v := .tuple #[]) (results_none Tryz.results34 _ _ _) rfl ?_
              refine ⟨⟨_, rfl⟩, ?_⟩
              have hs1 := HB6.out.size
              have hbw := HB3.out.trans ((HBR.out.trans (HB6.out.mono HBR.out.size)).mono HB3.out.size)
              have hb3 := HBR.out.trans (HB6.out.mono HBR.out.size)
              have hkl : n + 1 + (g.flows.length - n) = g.flows.length + 1 := by omega
              have ho := HO7.out
              rw [hkl] at ho
              first | rw [hkl] | rw [show n + 1 = g.flows.length + 1 by omega]
              have hfin := HE.out n (.slice a2 x.cond.length c2) (.slice a6 (g.flows.length + 1) c6) w6 hbw hn (owns_keep HV3.out hb3) (Nst.own_mono ho (by have := HB3.out.size; have := HBR.out.size; omega)) (fun b e1 e2 => by have := HVL.out b e1; have := (Nst.own_lt ho e2).1; have := HZ.out; omega)
              unfold linkL
              rw [HPR.out]
              exact hfin
            · go_simp
              refine hK.out _ _ hA3 (fun hHeld => ?_)
              clear hK K
              try simp only [Act.put, List.setIfInBounds_toArray, List.set_cons_zero, List.set_cons_succ]
              refine wpAnyH_take (i := 10) (oi := { dst := some 56, op := Go.Op.slice 25 (Go.Operand.tmp 54) (some (Go.Operand.tmp 55)) none none, type := 25, pos := "l06_graph.go:14", after := #[{ on := 8, ground := Go.Ground.data }, { on := 9, ground := Go.Ground.data }], guard := none }) (v := .slice (some ⟨gf, n * 3, none⟩) (g.flows.length - n) (cf - n)) rfl (by kernel_rfl) (by kernel_rfl) (by kernel_rfl) (fun _ _ _ h => h) (Or.inl ⟨by rfl, by intro w hSw; (try dsimp only at hSw); obtain ⟨s0, s1, s2⟩ := hSw; go_simp⟩) (by assumption) ?_
              simp only [Act.put, List.setIfInBounds_toArray, List.set_cons_zero, List.set_cons_succ]
              refine wpAnyH_ready (rs := [4]) (by kernel_rfl) (by simp) ?_
              refine (AllReadyH.cons (o := { dst := some 50, op := Go.Op.call { callee := Go.Callee.builtin Go.Builtin.append, args := #[Go.Operand.tmp 47, Go.Operand.tmp 49], argTypes := #[25, 25] }, type := 25, pos := "l06_graph.go:14", after := #[{ on := 1, ground := Go.Ground.data }, { on := 3, ground := Go.Ground.data }], guard := none }) rfl (fun K hK => ?_) AllReadyH.nil)
              refine Ap.step_any _ (by rfl) _ _ 25 (by rfl) wr.heap.size 101 i0 _ 3 40 Tryz.underlying25 hi hx0 hx1 hx2 rfl (by omega) (.slice a4 n c4) n ((flat (fun j => flcell (FJ g.flows j) (F j)) g.flows.length).take (n * 3)) (by rfl) ((hown5.alloc _).drew) (.slice (some ⟨w4.heap.size, 0, none⟩) 1 1) 1 (flcell x (.slice a2 x.cond.length c2)) (by rfl) hrow5 (by unfold maxLen; omega) (by omega) (by simp; omega) (w4.heap.size + 1) (by simp) ?_
              intro a5 c5 w5 hown6 hgrow5 hat5
              have hB5 : Below wr.heap.size wr w5 := (HB4.out.trans (hal.mono HB4.out.size)).grown hgrow5 (by simp; omega) (fun b e => (Nst.own_lt hown5 e).1)
              have h53 := HKR.out.below hB5
              have e1 := old_cell hB5 zr c1
              have ef := old_free hB5 zr cf1
              have hrow6 := fl_tail (HFR.out.below hB5) hn (cf - n)
              refine hK.out _ _ h53 (fun hHeld => ?_)
              clear hK K
              try simp only [Act.put, List.setIfInBounds_toArray, List.set_cons_zero, List.set_cons_succ]
              refine wpAnyH_ready (rs := [11]) (by kernel_rfl) (by simp) ?_
              refine (AllReadyH.cons (o := { dst := some 57, op := Go.Op.call { callee := Go.Callee.builtin Go.Builtin.append, args := #[Go.Operand.tmp 50, Go.Operand.tmp 56], argTypes := #[25, 25] }, type := 25, pos := "l06_graph.go:14", after := #[{ on := 4, ground := Go.Ground.data }, { on := 10, ground := Go.Ground.data }, { on := 4, ground := Go.Ground.chain }], guard := none }) rfl (fun K hK => ?_) AllReadyH.nil)
              refine Ap.step_any _ (by rfl) _ _ 25 (by rfl) wr.heap.size 101 i0 _ 3 40 Tryz.underlying25 hi hx0 hx1 hx2 rfl (by omega) (.slice a5 (n + 1) c5) (n + 1) ((flat (fun j => flcell (FJ g.flows j) (F j)) g.flows.length).take (n * 3) ++ flcell x (.slice a2 x.cond.length c2)) (by rfl) hown6 (.slice (some ⟨gf, n * 3, none⟩) (g.flows.length - n) (cf - n)) (g.flows.length - n) ((flat (fun j => flcell (FJ g.flows j) (F j)) g.flows.length).drop (n * 3)) (by rfl) hrow6 (by unfold maxLen; omega) (by omega) hB5.size w5.heap.size rfl ?_
              intro a6 c6 w6 hown7 hgrow6 hat6
              have hB6 : Below wr.heap.size wr w6 := hB5.grown hgrow6 hB5.size (fun b e => (Nst.own_lt hown6 e).1)
              have h63 := HKR.out.below hB6
              have e1 := old_cell hB6 zr c1
              have ef := old_free hB6 zr cf1
              have HO7 := hid hown7
              have HB6 := hid hB6
              refine hK.out _ _ h63 (fun hHeld => ?_)
              clear hK K
              try simp only [Act.put, List.setIfInBounds_toArray, List.set_cons_zero, List.set_cons_succ]
              refine wpAnyH_take (i := 12) (oi := { dst := some 58, op := Go.Op.nilCheck (Go.Operand.tmp 46), type := 0, pos := "l06_graph.go:14", after := #[{ on := 0, ground := Go.Ground.data }, { on := 0, ground := Go.Ground.phase }, { on := 1, ground := Go.Ground.phase }, { on := 2, ground := Go.Ground.phase }, { on := 3, ground := Go.Ground.phase }, { on := 4, ground := Go.Ground.phase }, { on := 5, ground := Go.Ground.phase }, { on := 6, ground := Go.Ground.phase }, { on := 7, ground := Go.Ground.phase }, { on := 8, ground := Go.Ground.phase }, { on := 9, ground := Go.Ground.phase }, { on := 10, ground := Go.Ground.phase }, { on := 11, ground := Go.Ground.phase }], guard := none }) (v := .pointer (some ⟨P, 0, none⟩)) rfl (by kernel_rfl) (by kernel_rfl) (by kernel_rfl) (fun _ _ _ h => h) (Or.inl ⟨by rfl, by intro w hSw; (try dsimp only at hSw); obtain ⟨s0, s1, s2⟩ := hSw; go_simp⟩) (by assumption) ?_
              simp only [Act.put, List.setIfInBounds_toArray, List.set_cons_zero, List.set_cons_succ]
              refine wpAnyH_take (i := 13) (oi := { dst := some 59, op := Go.Op.fieldAddr 27 (Go.Operand.tmp 58) 1, type := 0, pos := "l06_graph.go:14", after := #[{ on := 12, ground := Go.Ground.data }, { on := 0, ground := Go.Ground.phase }, { on := 1, ground := Go.Ground.phase }, { on := 2, ground := Go.Ground.phase }, { on := 3, ground := Go.Ground.phase }, { on := 4, ground := Go.Ground.phase }, { on := 5, ground := Go.Ground.phase }, { on := 6, ground := Go.Ground.phase }, { on := 7, ground := Go.Ground.phase }, { on := 8, ground := Go.Ground.phase }, { on := 9, ground := Go.Ground.phase }, { on := 10, ground := Go.Ground.phase }, { on := 11, ground := Go.Ground.phase }], guard := none }) (v := .pointer (some ⟨P, 1, none⟩)) rfl (by kernel_rfl) (by kernel_rfl) (by kernel_rfl) (fun _ _ _ h => h) (Or.inl ⟨by rfl, by intro w hSw; (try dsimp only at hSw); obtain ⟨s0, s1, s2⟩ := hSw; go_simp⟩) (by assumption) ?_
              simp only [Act.put, List.setIfInBounds_toArray, List.set_cons_zero, List.set_cons_succ]
              refine wpAnyH_ready (rs := [14]) (by kernel_rfl) (by simp) ?_
              refine (AllReadyH.cons (o := { dst := none, op := Go.Op.store 25 (Go.Operand.tmp 59) (Go.Operand.tmp 57), type := 0, pos := "l06_graph.go:14", after := #[{ on := 13, ground := Go.Ground.data }, { on := 11, ground := Go.Ground.data }, { on := 11, ground := Go.Ground.chain }, { on := 0, ground := Go.Ground.phase }, { on := 1, ground := Go.Ground.phase }, { on := 2, ground := Go.Ground.phase }, { on := 3, ground := Go.Ground.phase }, { on := 4, ground := Go.Ground.phase }, { on := 5, ground := Go.Ground.phase }, { on := 6, ground := Go.Ground.phase }, { on := 7, ground := Go.Ground.phase }, { on := 8, ground := Go.Ground.phase }, { on := 9, ground := Go.Ground.phase }, { on := 10, ground := Go.Ground.phase }, { on := 11, ground := Go.Ground.phase }], guard := none }) rfl (fun K hK => ?_) AllReadyH.nil)
              go_simp
              refine hK.out _ _ (h63.set hPX) (fun hHeld => ?_)
              clear hK K
              try simp only [Act.put, List.setIfInBounds_toArray, List.set_cons_zero, List.set_cons_succ]
              refine wpAnyH_done (by kernel_rfl) ?_ _
              clear hgrow5 hgrow6 hat5 hat6 hown6 hown7 e1 ef hB5 hB6 hrow6 h53 h63 hHeld
              go_wp2
              refine bodyPost_end (v := .tuple #[]) (results_none Tryz.results34 _ _ _) rfl ?_
              refine ⟨⟨_, rfl⟩, ?_⟩
              have hs1 := HB6.out.size
              have hbw := HB3.out.trans ((HBR.out.trans (HB6.out.mono HBR.out.size)).mono HB3.out.size)
              have hb3 := HBR.out.trans (HB6.out.mono HBR.out.size)
              have hkl : n + 1 + (g.flows.length - n) = g.flows.length + 1 := by omega
              have ho := HO7.out
              rw [hkl] at ho
              first | rw [hkl] | rw [show n + 1 = g.flows.length + 1 by omega]
              have hfin := HE.out n (.slice a2 x.cond.length c2) (.slice a6 (g.flows.length + 1) c6) w6 hbw hn (owns_keep HV3.out hb3) (Nst.own_mono ho (by have := HB3.out.size; have := HBR.out.size; omega)) (fun b e1 e2 => by have := HVL.out b e1; have := (Nst.own_lt ho e2).1; have := HZ.out; omega)
              unfold linkL
              rw [HPR.out]
              exact hfin
          · go_simp
            refine hK.out _ _ h43 (fun hHeld => ?_)
            clear hK K
            try simp only [Act.put, List.setIfInBounds_toArray, List.set_cons_zero, List.set_cons_succ]
            refine wpAnyH_take (i := 10) (oi := { dst := some 56, op := Go.Op.slice 25 (Go.Operand.tmp 54) (some (Go.Operand.tmp 55)) none none, type := 25, pos := "l06_graph.go:14", after := #[{ on := 8, ground := Go.Ground.data }, { on := 9, ground := Go.Ground.data }], guard := none }) (v := .slice (some ⟨gf, n * 3, none⟩) (g.flows.length - n) (cf - n)) rfl (by kernel_rfl) (by kernel_rfl) (by kernel_rfl) (fun _ _ _ h => h) (Or.inl ⟨by rfl, by intro w hSw; (try dsimp only at hSw); obtain ⟨s0, s1, s2⟩ := hSw; go_simp⟩) (by assumption) ?_
            simp only [Act.put, List.setIfInBounds_toArray, List.set_cons_zero, List.set_cons_succ]
            refine wpAnyH_ready (rs := [3]) (by kernel_rfl) (by simp) ?_
            refine (AllReadyH.cons (o := { dst := some 49, op := Go.Op.buildSlice 25 1 #[(0, Go.Operand.tmp 48)], type := 25, pos := "l06_graph.go:14", after := #[{ on := 2, ground := Go.Ground.data }], guard := none }) rfl (fun K hK => ?_) AllReadyH.nil)
            go_simp
            refine hK.out _ _ hA3 (fun hHeld => ?_)
            clear hK K
            try simp only [Act.put, List.setIfInBounds_toArray, List.set_cons_zero, List.set_cons_succ]
            refine wpAnyH_ready (rs := [4]) (by kernel_rfl) (by simp) ?_
            refine (AllReadyH.cons (o := { dst := some 50, op := Go.Op.call { callee := Go.Callee.builtin Go.Builtin.append, args := #[Go.Operand.tmp 47, Go.Operand.tmp 49], argTypes := #[25, 25] }, type := 25, pos := "l06_graph.go:14", after := #[{ on := 1, ground := Go.Ground.data }, { on := 3, ground := Go.Ground.data }], guard := none }) rfl (fun K hK => ?_) AllReadyH.nil)
            refine Ap.step_any _ (by rfl) _ _ 25 (by rfl) wr.heap.size 101 i0 _ 3 40 Tryz.underlying25 hi hx0 hx1 hx2 rfl (by omega) (.slice a4 n c4) n ((flat (fun j => flcell (FJ g.flows j) (F j)) g.flows.length).take (n * 3)) (by rfl) ((hown5.alloc _).drew) (.slice (some ⟨w4.heap.size, 0, none⟩) 1 1) 1 (flcell x (.slice a2 x.cond.length c2)) (by rfl) hrow5 (by unfold maxLen; omega) (by omega) (by simp; omega) (w4.heap.size + 1) (by simp) ?_
            intro a5 c5 w5 hown6 hgrow5 hat5
            have hB5 : Below wr.heap.size wr w5 := (HB4.out.trans (hal.mono HB4.out.size)).grown hgrow5 (by simp; omega) (fun b e => (Nst.own_lt hown5 e).1)
            have h53 := HKR.out.below hB5
            have e1 := old_cell hB5 zr c1
            have ef := old_free hB5 zr cf1
            have hrow6 := fl_tail (HFR.out.below hB5) hn (cf - n)
            refine hK.out _ _ h53 (fun hHeld => ?_)
            clear hK K
            try simp only [Act.put, List.setIfInBounds_toArray, List.set_cons_zero, List.set_cons_succ]
            refine wpAnyH_ready (rs := [11]) (by kernel_rfl) (by simp) ?_
            refine (AllReadyH.cons (o := { dst := some 57, op := Go.Op.call { callee := Go.Callee.builtin Go.Builtin.append, args := #[Go.Operand.tmp 50, Go.Operand.tmp 56], argTypes := #[25, 25] }, type := 25, pos := "l06_graph.go:14", after := #[{ on := 4, ground := Go.Ground.data }, { on := 10, ground := Go.Ground.data }, { on := 4, ground := Go.Ground.chain }], guard := none }) rfl (fun K hK => ?_) AllReadyH.nil)
            refine Ap.step_any _ (by rfl) _ _ 25 (by rfl) wr.heap.size 101 i0 _ 3 40 Tryz.underlying25 hi hx0 hx1 hx2 rfl (by omega) (.slice a5 (n + 1) c5) (n + 1) ((flat (fun j => flcell (FJ g.flows j) (F j)) g.flows.length).take (n * 3) ++ flcell x (.slice a2 x.cond.length c2)) (by rfl) hown6 (.slice (some ⟨gf, n * 3, none⟩) (g.flows.length - n) (cf - n)) (g.flows.length - n) ((flat (fun j => flcell (FJ g.flows j) (F j)) g.flows.length).drop (n * 3)) (by rfl) hrow6 (by unfold maxLen; omega) (by omega) hB5.size w5.heap.size rfl ?_
            intro a6 c6 w6 hown7 hgrow6 hat6
            have hB6 : Below wr.heap.size wr w6 := hB5.grown hgrow6 hB5.size (fun b e => (Nst.own_lt hown6 e).1)
            have h63 := HKR.out.below hB6
            have e1 := old_cell hB6 zr c1
            have ef := old_free hB6 zr cf1
            have HO7 := hid hown7
            have HB6 := hid hB6
            refine hK.out _ _ h63 (fun hHeld => ?_)
            clear hK K
            try simp only [Act.put, List.setIfInBounds_toArray, List.set_cons_zero, List.set_cons_succ]
            refine wpAnyH_take (i := 12) (oi := { dst := some 58, op := Go.Op.nilCheck (Go.Operand.tmp 46), type := 0, pos := "l06_graph.go:14", after := #[{ on := 0, ground := Go.Ground.data }, { on := 0, ground := Go.Ground.phase }, { on := 1, ground := Go.Ground.phase }, { on := 2, ground := Go.Ground.phase }, { on := 3, ground := Go.Ground.phase }, { on := 4, ground := Go.Ground.phase }, { on := 5, ground := Go.Ground.phase }, { on := 6, ground := Go.Ground.phase }, { on := 7, ground := Go.Ground.phase }, { on := 8, ground := Go.Ground.phase }, { on := 9, ground := Go.Ground.phase }, { on := 10, ground := Go.Ground.phase }, { on := 11, ground := Go.Ground.phase }], guard := none }) (v := .pointer (some ⟨P, 0, none⟩)) rfl (by kernel_rfl) (by kernel_rfl) (by kernel_rfl) (fun _ _ _ h => h) (Or.inl ⟨by rfl, by intro w hSw; (try dsimp only at hSw); obtain ⟨s0, s1, s2⟩ := hSw; go_simp⟩) (by assumption) ?_
            simp only [Act.put, List.setIfInBounds_toArray, List.set_cons_zero, List.set_cons_succ]
            refine wpAnyH_take (i := 13) (oi := { dst := some 59, op := Go.Op.fieldAddr 27 (Go.Operand.tmp 58) 1, type := 0, pos := "l06_graph.go:14", after := #[{ on := 12, ground := Go.Ground.data }, { on := 0, ground := Go.Ground.phase }, { on := 1, ground := Go.Ground.phase }, { on := 2, ground := Go.Ground.phase }, { on := 3, ground := Go.Ground.phase }, { on := 4, ground := Go.Ground.phase }, { on := 5, ground := Go.Ground.phase }, { on := 6, ground := Go.Ground.phase }, { on := 7, ground := Go.Ground.phase }, { on := 8, ground := Go.Ground.phase }, { on := 9, ground := Go.Ground.phase }, { on := 10, ground := Go.Ground.phase }, { on := 11, ground := Go.Ground.phase }], guard := none }) (v := .pointer (some ⟨P, 1, none⟩)) rfl (by kernel_rfl) (by kernel_rfl) (by kernel_rfl) (fun _ _ _ h => h) (Or.inl ⟨by rfl, by intro w hSw; (try dsimp only at hSw); obtain ⟨s0, s1, s2⟩ := hSw; go_simp⟩) (by assumption) ?_
            simp only [Act.put, List.setIfInBounds_toArray, List.set_cons_zero, List.set_cons_succ]
            refine wpAnyH_ready (rs := [14]) (by kernel_rfl) (by simp) ?_
            refine (AllReadyH.cons (o := { dst := none, op := Go.Op.store 25 (Go.Operand.tmp 59) (Go.Operand.tmp 57), type := 0, pos := "l06_graph.go:14", after := #[{ on := 13, ground := Go.Ground.data }, { on := 11, ground := Go.Ground.data }, { on := 11, ground := Go.Ground.chain }, { on := 0, ground := Go.Ground.phase }, { on := 1, ground := Go.Ground.phase }, { on := 2, ground := Go.Ground.phase }, { on := 3, ground := Go.Ground.phase }, { on := 4, ground := Go.Ground.phase }, { on := 5, ground := Go.Ground.phase }, { on := 6, ground := Go.Ground.phase }, { on := 7, ground := Go.Ground.phase }, { on := 8, ground := Go.Ground.phase }, { on := 9, ground := Go.Ground.phase }, { on := 10, ground := Go.Ground.phase }, { on := 11, ground := Go.Ground.phase }], guard := none }) rfl (fun K hK => ?_) AllReadyH.nil)
            go_simp
            refine hK.out _ _ (h63.set hPX) (fun hHeld => ?_)
            clear hK K
            try simp only [Act.put, List.setIfInBounds_toArray, List.set_cons_zero, List.set_cons_succ]
            refine wpAnyH_done (by kernel_rfl) ?_ _
            clear hgrow5 hgrow6 hat5 hat6 hown6 hown7 e1 ef hB5 hB6 hrow6 h53 h63 hHeld
            go_wp2
            refine bodyPost_end (v := .tuple #[]) (results_none Tryz.results34 _ _ _) rfl ?_
            refine ⟨⟨_, rfl⟩, ?_⟩
            have hs1 := HB6.out.size
            have hbw := HB3.out.trans ((HBR.out.trans (HB6.out.mono HBR.out.size)).mono HB3.out.size)
            have hb3 := HBR.out.trans (HB6.out.mono HBR.out.size)
            have hkl : n + 1 + (g.flows.length - n) = g.flows.length + 1 := by omega
            have ho := HO7.out
            rw [hkl] at ho
            first | rw [hkl] | rw [show n + 1 = g.flows.length + 1 by omega]
            have hfin := HE.out n (.slice a2 x.cond.length c2) (.slice a6 (g.flows.length + 1) c6) w6 hbw hn (owns_keep HV3.out hb3) (Nst.own_mono ho (by have := HB3.out.size; have := HBR.out.size; omega)) (fun b e1 e2 => by have := HVL.out b e1; have := (Nst.own_lt ho e2).1; have := HZ.out; omega)
            unfold linkL
            rw [HPR.out]
            exact hfin
end Gr
end Go.Proofs.YtfgckeoigkoflaaGreatDoor
