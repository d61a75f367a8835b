/- Laid together: GpC, Sort, GqM. -/
import Derived.Test.YtfgckeoigkoflaaGreatDoorJGraphOf22
import Derived.Deep.RegionLaw
import Derived.Deep.RegionHeld3
import Derived.Shelf.SlSortCmp.WholeK
import Derived.Test.YtfgckeoigkoflaaGreatDoorProg
/- The program's order of the ends of flows: compareEnds. -/
namespace Go.Proofs.YtfgckeoigkoflaaGreatDoor
open Go.RowKit
set_option linter.unusedVariables false
namespace Gr
open Ex (hid)
structure Ends2 (w : World) (b c : Nat) (x y : Int × Int) : Prop where
  x0 : w.cell? ⟨b, 0, none⟩ = some (.int .i64 x.1)
  x1 : w.cell? ⟨b, 1, none⟩ = some (.int .i64 x.2)
  y0 : w.cell? ⟨c, 0, none⟩ = some (.int .i64 y.1)
  y1 : w.cell? ⟨c, 1, none⟩ = some (.int .i64 y.2)
set_option maxRecDepth 100000 in
set_option maxHeartbeats 4000000 in
theorem implCompareEnds (x y : Int × Int) (w : World) : Calls Tryz.prog 48 #[.agg #[.int .i64 x.1, .int .i64 x.2], .agg #[.int .i64 y.1, .int .i64 y.2]] w fun e w' => e = .returned (.int .i64 (cmpE x y)) ∧ w' = (((w.alloc (.cells #[.int .i64 x.1, .int .i64 x.2] 103)).alloc (.cells #[.int .i64 y.1, .int .i64 y.2] 103)).alloc (.cells #[.int .i64 (cmpI x.1 y.1), .int .i64 (cmpI x.2 y.2)] 3)).drew := by
  have h1 : ((w.alloc (.cells #[.int .i64 x.1, .int .i64 x.2] 103)).alloc (.cells #[.int .i64 y.1, .int .i64 y.2] 103)).heap[w.heap.size]? = some (.cells #[.int .i64 x.1, .int .i64 x.2] 103 (0, 0)) := by
    rw [Below.heap_alloc _ _ _ (by simp)]
    exact heap_alloc_new w _
  have h2 : ((w.alloc (.cells #[.int .i64 x.1, .int .i64 x.2] 103)).alloc (.cells #[.int .i64 y.1, .int .i64 y.2] 103)).heap[w.heap.size + 1]? = some (.cells #[.int .i64 y.1, .int .i64 y.2] 103 (0, 0)) := by
    have := heap_alloc_new (w.alloc (.cells #[.int .i64 x.1, .int .i64 x.2] 103)) (.cells #[.int .i64 y.1, .int .i64 y.2] 103)
    rw [World.size_alloc] at this
    exact this
  have hz : ((w.alloc (.cells #[.int .i64 x.1, .int .i64 x.2] 103)).alloc (.cells #[.int .i64 y.1, .int .i64 y.2] 103)).heap.size = w.heap.size + 2 := by simp
  have H1 := hid h1
  have H2 := hid h2
  have HZ := hid hz
  obtain ⟨r, hr⟩ : ∃ r, r = if cmpI x.1 y.1 ≠ 0 then cmpI x.1 y.1 else cmpI x.2 y.2 := ⟨_, rfl⟩
  have HV : Hid (cmpE x y = r) := hid (by rw [hr]; rfl)
  have HR := hid hr
  clear hr
  clear h1 h2 hz
  go_enter Tryz.func48, Tryz.ntmps48
  go_wp2
  generalize hw0 : (w.alloc (.cells #[.int .i64 x.1, .int .i64 x.2] 103)).alloc (.cells #[.int .i64 y.1, .int .i64 y.2] 103) = w0 at *
  have HW := hid hw0
  clear hw0
  have hst0 : Ends2 w0 w.heap.size (w.heap.size + 1) x y := ⟨by simp [World.cell?, H1.out], by simp [World.cell?, H1.out], by simp [World.cell?, H2.out], by simp [World.cell?, H2.out]⟩
  have hst : Ends2 w0.drew w.heap.size (w.heap.size + 1) x y := ⟨hst0.x0, hst0.x1, hst0.y0, hst0.y1⟩
  have hn3 := heap_alloc_new w0 (.cells #[.int .i64 (cmpI x.1 y.1), .int .i64 (cmpI x.2 y.2)] 3)
  have hk : ∀ b, b < w.heap.size + 2 → (w0.alloc (.cells #[.int .i64 (cmpI x.1 y.1), .int .i64 (cmpI x.2 y.2)] 3)).heap[b]? = w0.heap[b]? := fun b hb => Below.heap_alloc _ _ _ (by have := HZ.out; omega)
  have hst2 : Ends2 (w0.alloc (.cells #[.int .i64 (cmpI x.1 y.1), .int .i64 (cmpI x.2 y.2)] 3)).drew w.heap.size (w.heap.size + 1) x y := by
    have e1 := (hk w.heap.size (by omega)).trans H1.out
    have e2 := (hk (w.heap.size + 1) (by omega)).trans H2.out
    exact ⟨by simp [World.cell?, World.drew, e1], by simp [World.cell?, World.drew, e1], by simp [World.cell?, World.drew, e2], by simp [World.cell?, World.drew, e2]⟩
  have ho0 : (w0.alloc (.cells #[.int .i64 (cmpI x.1 y.1), .int .i64 (cmpI x.2 y.2)] 3)).drew.cell? ⟨w0.heap.size, 0, none⟩ = some (.int .i64 (cmpI x.1 y.1)) := by simp only [World.cell?, World.drew]; rw [hn3]; rfl
  have ho1 : (w0.alloc (.cells #[.int .i64 (cmpI x.1 y.1), .int .i64 (cmpI x.2 y.2)] 3)).drew.cell? ⟨w0.heap.size, 1, none⟩ = some (.int .i64 (cmpI x.2 y.2)) := by simp only [World.cell?, World.drew]; rw [hn3]; rfl
  have HO := hid (implOr (cmpI x.1 y.1) (cmpI x.2 y.2) w0.heap.size _ ho0 ho1)
  rw [← HR.out] at HO
  clear hn3 hk hst0 HR
  refine wp_region_held_drew (S := fun wx => Ends2 wx (w.heap.size) (w.heap.size + 1) x y) (by kernel_rfl) hst (fun hHeld => ?_)
  refine wpAnyH_take (i := 0) (oi := { dst := some 5, op := Go.Op.fieldAddr 103 (Go.Operand.tmp 2) 0, type := 0, pos := "l06_graph.go:236", after := #[], guard := none }) (v := .pointer (some ⟨w.heap.size, 0, none⟩)) rfl (by kernel_rfl) (by kernel_rfl) (by kernel_rfl) (fun _ _ _ h => h) (Or.inl ⟨by rfl, by intro w hSw; (try dsimp only at hSw); obtain ⟨s0, s1, s2, s3⟩ := hSw; go_simp⟩) (by assumption) ?_
  simp only [Act.put, List.setIfInBounds_toArray, List.set_cons_zero, List.set_cons_succ]
  refine wpAnyH_take (i := 1) (oi := { dst := some 6, op := Go.Op.load 2 (Go.Operand.tmp 5), type := 2, pos := "l06_graph.go:236", after := #[{ on := 0, ground := Go.Ground.data }], guard := none }) (v := .int .i64 x.1) rfl (by kernel_rfl) (by kernel_rfl) (by kernel_rfl) (fun _ _ _ h => h) (Or.inl ⟨by rfl, by intro w hSw; (try dsimp only at hSw); obtain ⟨s0, s1, s2, s3⟩ := hSw; go_simp⟩) (by assumption) ?_
  simp only [Act.put, List.setIfInBounds_toArray, List.set_cons_zero, List.set_cons_succ]
  refine wpAnyH_take (i := 2) (oi := { dst := some 7, op := Go.Op.fieldAddr 103 (Go.Operand.tmp 3) 0, type := 0, pos := "l06_graph.go:236", after := #[], guard := none }) (v := .pointer (some ⟨w.heap.size + 1, 0, none⟩)) rfl (by kernel_rfl) (by kernel_rfl) (by kernel_rfl) (fun _ _ _ h => h) (Or.inl ⟨by rfl, by intro w hSw; (try dsimp only at hSw); obtain ⟨s0, s1, s2, s3⟩ := hSw; go_simp⟩) (by assumption) ?_
  simp only [Act.put, List.setIfInBounds_toArray, List.set_cons_zero, List.set_cons_succ]
  refine wpAnyH_take (i := 3) (oi := { dst := some 8, op := Go.Op.load 2 (Go.Operand.tmp 7), type := 2, pos := "l06_graph.go:236", after := #[{ on := 2, ground := Go.Ground.data }], guard := none }) (v := .int .i64 y.1) rfl (by kernel_rfl) (by kernel_rfl) (by kernel_rfl) (fun _ _ _ h => h) (Or.inl ⟨by rfl, by intro w hSw; (try dsimp only at hSw); obtain ⟨s0, s1, s2, s3⟩ := hSw; go_simp⟩) (by assumption) ?_
  simp only [Act.put, List.setIfInBounds_toArray, List.set_cons_zero, List.set_cons_succ]
  refine wpAnyH_take (i := 5) (oi := { dst := some 10, op := Go.Op.fieldAddr 103 (Go.Operand.tmp 2) 1, type := 0, pos := "l06_graph.go:236", after := #[], guard := none }) (v := .pointer (some ⟨w.heap.size, 1, none⟩)) rfl (by kernel_rfl) (by kernel_rfl) (by kernel_rfl) (fun _ _ _ h => h) (Or.inl ⟨by rfl, by intro w hSw; (try dsimp only at hSw); obtain ⟨s0, s1, s2, s3⟩ := hSw; go_simp⟩) (by assumption) ?_
  simp only [Act.put, List.setIfInBounds_toArray, List.set_cons_zero, List.set_cons_succ]
  refine wpAnyH_take (i := 6) (oi := { dst := some 11, op := Go.Op.load 2 (Go.Operand.tmp 10), type := 2, pos := "l06_graph.go:236", after := #[{ on := 5, ground := Go.Ground.data }], guard := none }) (v := .int .i64 x.2) rfl (by kernel_rfl) (by kernel_rfl) (by kernel_rfl) (fun _ _ _ h => h) (Or.inl ⟨by rfl, by intro w hSw; (try dsimp only at hSw); obtain ⟨s0, s1, s2, s3⟩ := hSw; go_simp⟩) (by assumption) ?_
  simp only [Act.put, List.setIfInBounds_toArray, List.set_cons_zero, List.set_cons_succ]
  refine wpAnyH_take (i := 7) (oi := { dst := some 12, op := Go.Op.fieldAddr 103 (Go.Operand.tmp 3) 1, type := 0, pos := "l06_graph.go:236", after := #[], guard := none }) (v := .pointer (some ⟨w.heap.size + 1, 1, none⟩)) rfl (by kernel_rfl) (by kernel_rfl) (by kernel_rfl) (fun _ _ _ h => h) (Or.inl ⟨by rfl, by intro w hSw; (try dsimp only at hSw); obtain ⟨s0, s1, s2, s3⟩ := hSw; go_simp⟩) (by assumption) ?_
  simp only [Act.put, List.setIfInBounds_toArray, List.set_cons_zero, List.set_cons_succ]
  refine wpAnyH_take (i := 8) (oi := { dst := some 13, op := Go.Op.load 2 (Go.Operand.tmp 12), type := 2, pos := "l06_graph.go:236", after := #[{ on := 7, ground := Go.Ground.data }], guard := none }) (v := .int .i64 y.2) rfl (by kernel_rfl) (by kernel_rfl) (by kernel_rfl) (fun _ _ _ h => h) (Or.inl ⟨by rfl, by intro w hSw; (try dsimp only at hSw); obtain ⟨s0, s1, s2, s3⟩ := hSw; go_simp⟩) (by assumption) ?_
  simp only [Act.put, List.setIfInBounds_toArray, List.set_cons_zero, List.set_cons_succ]
  refine wpAnyH_ready (rs := [4]) (by kernel_rfl) (by simp) ?_
  refine (AllReadyH.cons (o := { dst := some 9, op := Go.Op.call { callee := Go.Callee.value (Go.Operand.func 83), args := #[Go.Operand.tmp 6, Go.Operand.tmp 8], argTypes := #[2, 2] }, type := 3, pos := "l06_graph.go:236", after := #[{ on := 1, ground := Go.Ground.data }, { on := 3, ground := Go.Ground.data }], guard := none }) rfl (fun K hK => ?_) AllReadyH.nil)
  go_simp
  go_at_call 83
  refine (implCompare x.1 y.1 _).mono ?_
  rintro e w' ⟨rfl, rfl⟩
  go_wp2_with fail
  refine hK.out _ _ hst (fun hHeld => ?_)
  clear hK K
  try simp only [Act.put, List.setIfInBounds_toArray, List.set_cons_zero, List.set_cons_succ]
  refine wpAnyH_ready (rs := [9]) (by kernel_rfl) (by simp) ?_
  refine (AllReadyH.cons (o := { dst := some 14, op := Go.Op.call { callee := Go.Callee.value (Go.Operand.func 83), args := #[Go.Operand.tmp 11, Go.Operand.tmp 13], argTypes := #[2, 2] }, type := 3, pos := "l06_graph.go:236", after := #[{ on := 6, ground := Go.Ground.data }, { on := 8, ground := Go.Ground.data }, { on := 4, ground := Go.Ground.chain }], guard := none }) rfl (fun K hK => ?_) AllReadyH.nil)
  go_simp
  go_at_call 83
  refine (implCompare x.2 y.2 _).mono ?_
  rintro e w' ⟨rfl, rfl⟩
  go_wp2_with fail
  refine hK.out _ _ hst (fun hHeld => ?_)
  clear hK K
  try simp only [Act.put, List.setIfInBounds_toArray, List.set_cons_zero, List.set_cons_succ]
  refine wpAnyH_ready (rs := [10]) (by kernel_rfl) (by simp) ?_
  refine (AllReadyH.cons (o := { dst := some 15, op := Go.Op.buildSlice 173 2 #[(0, Go.Operand.tmp 9), (1, Go.Operand.tmp 14)], type := 173, pos := "l06_graph.go:236", after := #[{ on := 4, ground := Go.Ground.data }, { on := 9, ground := Go.Ground.data }], guard := none }) rfl (fun K hK => ?_) AllReadyH.nil)
  go_simp
  refine hK.out _ _ hst2 (fun hHeld => ?_)
  clear hK K
  try simp only [Act.put, List.setIfInBounds_toArray, List.set_cons_zero, List.set_cons_succ]
  refine wpAnyH_ready (rs := [11]) (by kernel_rfl) (by simp) ?_
  refine (AllReadyH.cons (o := { dst := some 16, op := Go.Op.call { callee := Go.Callee.value (Go.Operand.func 82), args := #[Go.Operand.tmp 15], argTypes := #[173] }, type := 3, pos := "l06_graph.go:236", after := #[{ on := 10, ground := Go.Ground.data }, { on := 9, ground := Go.Ground.chain }], guard := none }) rfl (fun K hK => ?_) AllReadyH.nil)
  go_simp
  go_at_call 82
  refine HO.out.mono ?_
  rintro e w' ⟨rfl, rfl⟩
  go_wp2_with fail
  refine hK.out _ _ hst2 (fun hHeld => ?_)
  clear hK K
  try simp only [Act.put, List.setIfInBounds_toArray, List.set_cons_zero, List.set_cons_succ]
  refine wpAnyH_take (i := 12) (oi := { dst := some 4, op := Go.Op.assign (Go.Operand.tmp 16), type := 3, pos := "l06_graph.go:236", after := #[{ on := 11, ground := Go.Ground.data }, { on := 11, ground := Go.Ground.chain }, { on := 0, ground := Go.Ground.phase }, { on := 1, ground := Go.Ground.phase }, { on := 2, ground := Go.Ground.phase }, { on := 3, ground := Go.Ground.phase }, { on := 4, ground := Go.Ground.phase }, { on := 5, ground := Go.Ground.phase }, { on := 6, ground := Go.Ground.phase }, { on := 7, ground := Go.Ground.phase }, { on := 8, ground := Go.Ground.phase }, { on := 9, ground := Go.Ground.phase }, { on := 10, ground := Go.Ground.phase }, { on := 11, ground := Go.Ground.phase }], guard := none }) (v := .int .i64 r) rfl (by kernel_rfl) (by kernel_rfl) (by kernel_rfl) (fun _ _ _ h => h) (Or.inl ⟨by rfl, by intro w hSw; (try dsimp only at hSw); obtain ⟨s0, s1, s2, s3⟩ := hSw; go_simp⟩) (by assumption) ?_
  simp only [Act.put, List.setIfInBounds_toArray, List.set_cons_zero, List.set_cons_succ]
  refine wpAnyH_done (by kernel_rfl) ?_ _
  clear hst hst2 ho0 ho1 hHeld
  go_wp2
  go_ret
  exact ⟨by rw [HV.out]; rfl, by rw [HW.out]⟩
end Gr
end Go.Proofs.YtfgckeoigkoflaaGreatDoor
/- A contract of the library that this seat uses, laid at its program. -/
namespace Go.Proofs.YtfgckeoigkoflaaGreatDoor
open Go.Shelf
def Tryz.sortEnds_ren : Go.Shelf.Ren := ⟨fun | 6 => 80 | 15 => 99 | 14 => 98 | 28 => 115 | 29 => 116 | 20 => 107 | 21 => 108 | 22 => 109 | 23 => 110 | 24 => 111 | 25 => 112 | 26 => 113 | 27 => 114 | 46 => 120 | 47 => 121 | 48 => 122 | 49 => 123 | 50 => 124 | 57 => 125 | n => n, fun | 22 => 104 | 24 => 103 | 25 => 109 | 3 => 3 | 39 => 172 | 0 => 0 | 53 => 190 | 55 => 192 | 4 => 4 | 46 => 183 | 45 => 182 | 50 => 187 | 5 => 5 | 9 => 9 | 66 => 202 | 70 => 206 | 76 => 208 | 77 => 209 | n => n, fun | n => n⟩
theorem Tryz.sortEnds : Go.Proofs.SlLaysF0.n6 Tryz.prog Tryz.sortEnds_ren := {
  mixed := by kernel_rfl
  f6 := ⟨Tryz.f80.name, by decide, Tryz.func80.trans (congrArg some (by kernel_rfl))⟩
  f14 := ⟨Tryz.f98.name, by decide, Tryz.func98.trans (congrArg some (by kernel_rfl))⟩
  f15 := Tryz.func99.trans (congrArg some (by kernel_rfl))
  f20 := ⟨Tryz.f107.name, by decide, Tryz.func107.trans (congrArg some (by kernel_rfl))⟩
  f21 := ⟨Tryz.f108.name, by decide, Tryz.func108.trans (congrArg some (by kernel_rfl))⟩
  f22 := ⟨Tryz.f109.name, by decide, Tryz.func109.trans (congrArg some (by kernel_rfl))⟩
  f23 := ⟨Tryz.f110.name, by decide, Tryz.func110.trans (congrArg some (by kernel_rfl))⟩
  f24 := ⟨Tryz.f111.name, by decide, Tryz.func111.trans (congrArg some (by kernel_rfl))⟩
  f25 := ⟨Tryz.f112.name, by decide, Tryz.func112.trans (congrArg some (by kernel_rfl))⟩
  f26 := ⟨Tryz.f113.name, by decide, Tryz.func113.trans (congrArg some (by kernel_rfl))⟩
  f27 := ⟨Tryz.f114.name, by decide, Tryz.func114.trans (congrArg some (by kernel_rfl))⟩
  f28 := Tryz.func115.trans (congrArg some (by kernel_rfl))
  f29 := Tryz.func116.trans (congrArg some (by kernel_rfl))
  f46 := ⟨Tryz.f120.name, by decide, Tryz.func120.trans (congrArg some (by kernel_rfl))⟩
  f47 := Tryz.func121.trans (congrArg some (by kernel_rfl))
  f48 := Tryz.func122.trans (congrArg some (by kernel_rfl))
  f49 := ⟨Tryz.f123.name, by decide, Tryz.func123.trans (congrArg some (by kernel_rfl))⟩
  f50 := ⟨Tryz.f124.name, by decide, Tryz.func124.trans (congrArg some (by kernel_rfl))⟩
  f57 := ⟨Tryz.f125.name, by decide, Tryz.func125.trans (congrArg some (by kernel_rfl))⟩
  t0 := Tryz.underlying0
  a0 := Tryz.isAgg0
  z0 := Tryz.sizeOf0
  v0 := Tryz.zeroValue0
  t3 := Tryz.underlying3
  a3 := Tryz.isAgg3
  z3 := Tryz.sizeOf3
  v3 := Tryz.zeroValue3
  t4 := Tryz.underlying4
  a4 := Tryz.isAgg4
  z4 := Tryz.sizeOf4
  v4 := Tryz.zeroValue4
  t5 := Tryz.underlying5
  a5 := Tryz.isAgg5
  z5 := Tryz.sizeOf5
  v5 := Tryz.zeroValue5
  t9 := Tryz.underlying9
  a9 := Tryz.isAgg9
  z9 := Tryz.sizeOf9
  v9 := Tryz.zeroValue9
  t22 := Tryz.underlying104
  a22 := Tryz.isAgg104
  z22 := Tryz.sizeOf104
  v22 := Tryz.zeroValue104
  t25 := Tryz.underlying109
  a25 := Tryz.isAgg109
  z25 := Tryz.sizeOf109
  v25 := Tryz.zeroValue109
  t39 := Tryz.underlying172
  a39 := Tryz.isAgg172
  z39 := Tryz.sizeOf172
  v39 := Tryz.zeroValue172
  t45 := Tryz.underlying182
  a45 := Tryz.isAgg182
  z45 := Tryz.sizeOf182
  v45 := Tryz.zeroValue182
  t46 := Tryz.underlying183
  a46 := Tryz.isAgg183
  z46 := Tryz.sizeOf183
  v46 := Tryz.zeroValue183
  t50 := Tryz.underlying187
  a50 := Tryz.isAgg187
  z50 := Tryz.sizeOf187
  v50 := Tryz.zeroValue187
  t53 := Tryz.underlying190
  a53 := Tryz.isAgg190
  z53 := Tryz.sizeOf190
  v53 := Tryz.zeroValue190
  t55 := Tryz.underlying192
  a55 := Tryz.isAgg192
  z55 := Tryz.sizeOf192
  v55 := Tryz.zeroValue192
  t66 := Tryz.underlying202
  a66 := Tryz.isAgg202
  z66 := Tryz.sizeOf202
  v66 := Tryz.zeroValue202
  t70 := Tryz.underlying206
  a70 := Tryz.isAgg206
  z70 := Tryz.sizeOf206
  v70 := Tryz.zeroValue206
  t76 := Tryz.underlying208
  a76 := Tryz.isAgg208
  z76 := Tryz.sizeOf208
  v76 := Tryz.zeroValue208
  t77 := Tryz.underlying209
  a77 := Tryz.isAgg209
  z77 := Tryz.sizeOf209
  v77 := Tryz.zeroValue209 }
end Go.Proofs.YtfgckeoigkoflaaGreatDoor
/- slices.SortedFunc over the keys of a map of flows: the keys in order. -/
namespace Go.Proofs.YtfgckeoigkoflaaGreatDoor
open Go.RowKit Go.Shelf
set_option linter.unusedVariables false
namespace Mp
open Go.Sort (HoldsK flatK PermIn SortedIn SWO grow)
open Gr (cmpE cmpI cmpE_lt)
theorem evs_get : ∀ (ss : List (Int × Int)) (i c : Nat) (h : i < ss.length), c < 2 → (ss.flatMap evs)[i * 2 + c]? = (evs ss[i])[c]?
  | a :: r, 0, c, _, hc => by
    rw [List.flatMap_cons, Nat.zero_mul, Nat.zero_add, List.getElem?_append_left (by simp [evs]; omega)]
    rfl
  | a :: r, i + 1, c, h, hc => by
    have hl : (evs a).length = 2 := rfl
    rw [List.flatMap_cons, List.getElem?_append_right (by rw [hl]; omega), hl, show (i + 1) * 2 + c - 2 = i * 2 + c by omega]
    simp only [List.getElem_cons_succ]
    exact evs_get r i c (by simpa using h) hc
theorem holds_of {w : World} {B blk cap : Nat} {ss : List (Int × Int)} {e : TypeId} (h : w.ownsRow B e 2 (.slice (some ⟨blk, 0, none⟩) ss.length cap) ss.length (ss.flatMap evs)) : HoldsK evs 2 w blk 0 ss.toArray := by
  intro t ht
  have ht' : t < ss.length * 2 := by simpa using ht
  rw [Nat.zero_add]
  refine ⟨?_, h.frozenAt t⟩
  rw [h.cellAt t ht', Sort.get_flatK _ _ _ _ (by simpa using ht')]
  have hd : t / 2 < ss.length := by omega
  have e1 : t = t / 2 * 2 + t % 2 := by omega
  have e2 := evs_get ss (t / 2) (t % 2) hd (by omega)
  rw [← e1] at e2
  rw [e2]
  have e3 : ss.toArray[t / 2]! = ss[t / 2] := by simp [hd]
  rw [e3, List.getElem?_eq_getElem (by show t % 2 < 2; omega)]
  simp [evs, show t % 2 < 2 by omega]
theorem order : SWO (ltOf cmpE) where
  irrefl x := by
    unfold ltOf
    rw [decide_eq_false_iff_not, cmpE_lt]
    omega
  trans x y z h1 h2 := by
    unfold ltOf at *
    rw [decide_eq_true_eq, cmpE_lt] at *
    omega
  ntrans x y z h1 h2 := by
    unfold ltOf at *
    rw [decide_eq_false_iff_not, cmpE_lt] at *
    omega
theorem cmpLays (blk off size : Nat) (w : World) : CmpLays Tryz.prog 48 #[] evs 2 cmpE blk off size w := fun m os dk hs x y => by
  refine (Gr.implCompareEnds x y _).mono ?_
  rintro e w' ⟨rfl, rfl⟩
  refine ⟨rfl, 1, #[.cells #[.int .i64 x.1, .int .i64 x.2] 103] ++ #[.cells #[.int .i64 y.1, .int .i64 y.2] 103] ++ #[.cells #[.int .i64 (cmpI x.1 y.1), .int .i64 (cmpI x.2 y.2)] 3], ?_⟩
  rw [Sort.alloc_eq_grow, Sort.alloc_eq_grow, Sort.alloc_eq_grow, Sort.grow_grow, Sort.grow_grow, Sort.drew_grow]
  rfl
theorem heap_other {w : World} {blk n : Nat} {d : Array (Int × Int)} {os : Array Obj} {k : Nat} (hk : k < w.heap.size) (hne : k ≠ blk) : (sortWorldK evs 2 w blk 0 n d os).heap[k]? = w.heap[k]? := by
  unfold sortWorldK
  rw [Sort.heap_grow_old _ _ (by rw [Sort.size_putRowK]; exact hk)]
  have : blk ≠ k := fun e => hne e.symm
  simp [Sort.putRowK, Sort.putRow, Sort.mapBlock, Sort.ahead, Array.getElem?_modify, this]
set_option maxRecDepth 100000 in
set_option maxHeartbeats 800000 in
theorem sortedEnds (Bm b : Nat) (E : List Ent) (w : World) (hBm : Bm < w.heap.size) (hm : w.cell? ⟨Bm, 0, none⟩ = some (.map (some b))) (hat : At w b E) (h0 : 0 < E.length) (hl : E.length ≤ 1000000000000) :
    Calls Tryz.prog 46 #[.func (.func 81) #[] #[.pointer (some ⟨Bm, 0, none⟩)], .func (.func 48) #[] #[]] w fun e w' => ∃ (blk cap : Nat) (ss : List (Int × Int)), e = .returned (.slice (some ⟨blk, 0, none⟩) ss.length cap) ∧ ss.Perm (E.map (·.1)) ∧ ss.Pairwise (fun x y => ¬ cmpE y x < 0) ∧ w.heap.size ≤ blk ∧ blk < w'.heap.size ∧ (∀ i (h : i < ss.length), w'.cell? ⟨blk, i * 2, none⟩ = some (.int .i64 ss[i].1) ∧ w'.cell? ⟨blk, i * 2 + 1, none⟩ = some (.int .i64 ss[i].2)) ∧ Below w.heap.size w w' := by
  have HC := hid (collect 81 #[.pointer (some ⟨Bm, 0, none⟩)] (enters_of Tryz.func81 (by kernel_rfl) rfl) _ E.length hl w (keysGives 4 Bm b E w hBm hm hat))
  clear hat hm
  go_enter Tryz.func46, Tryz.ntmps46
  go_wp2_with fail
  refine HC.out.mono ?_
  rintro e w1 ⟨v, ss, rfl, hp, hr, hb⟩
  have hlen : ss.length = E.length := by have := hp.length_eq; simpa using this
  obtain ⟨blk, cap, rfl, hbk, hbl, _, _⟩ := Nst.own_some hr (by omega)
  have hH := holds_of hr
  have hS := AnyQ.slices_SortFunc Tryz.sortEnds 2 Tryz.isAgg103 Tryz.sizeOf103 evs (fun _ => rfl) (fun x v hv => by simp [evs] at hv; rcases hv with rfl | rfl <;> rfl) cmpE order 48 #[] blk 0 cap ss.toArray w1 (enters_of Tryz.func48 (by kernel_rfl) rfl) (cmpLays blk 0 ss.toArray.size w1) hH hbl (by simp; omega)
  have HLEN := hid hlen
  clear hlen
  change Calls Tryz.prog 80 _ _ _ at hS
  simp only [List.size_toArray] at hS
  have HS := hid hS
  have HH := hid hH
  have HP := hid hp
  have HB := hid hb
  clear hS hr hH hp hb HC
  go_wp2_with fail
  refine HS.out.mono ?_
  rintro e w2 ⟨rfl, d', n, os, hpm, hso, rfl⟩
  have hsz : d'.size = ss.length := by have := hpm.1; simpa using this
  have hH2 : HoldsK evs 2 (sortWorldK evs 2 w1 blk 0 n d' os) blk 0 d' := holdsK_sortWorldK_c evs 2 w1 blk 0 ss.toArray d' n os HH.out hbl (by simp [hsz])
  have HH2 := hid hH2
  have HSO := hid hso
  have HPM := hid hpm
  have HSZ := hid hsz
  have HB2 : Hid (Below w1.heap.size w1 w1) := hid (Below.refl _ _)
  clear hpm hso hH2 hsz HS
  go_wp2
  go_ret
  have hsz := HSZ.out
  have hd : ∀ i (h : i < d'.toList.length), d'[i]! = d'.toList[i] := fun i h => by
    have h2 : i < d'.size := by simpa using h
    rw [getElem!_pos d' i h2]
    simp
  have hlt : d'.toList.length = ss.length := by simp [hsz]
  refine ⟨blk, cap, d'.toList, (by rw [hlt]; rfl), ?_, ?_, hbk, ?_, fun i hi => ?_, ?_⟩
  · have h2 := HPM.out.2.2
    have e1 : d'.extract 0 ss.length = d' := by rw [← hsz]; simp
    have e2 : ss.toArray.extract 0 ss.length = ss.toArray := by simp
    rw [e1, e2] at h2
    exact h2.trans HP.out
  · refine List.pairwise_iff_getElem.2 (fun i j hi hj hij => ?_)
    have h3 := HSO.out i j (Nat.zero_le _) hij (by omega)
    rw [hd i hi, hd j hj] at h3
    unfold ltOf at h3
    simpa using h3
  · exact Nat.lt_of_lt_of_le hbl (size_sortWorldK_c evs 2 w1 blk 0 n d' os)
  · have hi2 : i < d'.size := by simpa using hi
    have a0 := (HH2.out.cell (i := i) (c := 0) hi2 (by omega)).1
    have a1 := (HH2.out.cell (i := i) (c := 1) hi2 (by omega)).1
    rw [hd i hi, Nat.zero_add] at a0 a1
    exact ⟨a0, a1⟩
  · have hz := HB.out.size
    refine ⟨HB.out.os, HB.out.tape, HB.out.output, Nat.le_trans hz (size_sortWorldK_c evs 2 w1 blk 0 n d' os), fun k hk => ?_⟩
    exact (heap_other (by omega) (by omega)).trans (HB.out.block k hk)
end Mp
end Go.Proofs.YtfgckeoigkoflaaGreatDoor
