/- Whether the law's marks hold, in attrs and elements that a function has made itself. -/
import Derived.Test.YtgghigfflpbjiaaGreatDoorJTreeOf22
import Derived.Deep.RegionHeld3
namespace Go.Proofs.YtgghigfflpbjiaaGreatDoor
open Go.RowKit
set_option linter.unusedVariables false
namespace Tf
open Ex (hid)
open Tr (AttrD ElemD AttrsAt ElemsAt)
open Nst (own)
open St (Amid)
open Mk (mt markText markText')
open Pf (kept_cell)
theorem mt_ne (k : Nat) : ((mt k).toList != (mt k).toList) = false := by simp
set_option maxRecDepth 100000 in
set_option maxHeartbeats 8000000 in
theorem heldAttrs (B n k : Nat) (v : Value) (w : World) (hn : n ≤ 64) (h0 : 0 < k) (hk : k ≤ 17592186044416) (ha : AttrsAt w B v (mkA k n)) :
    Calls Tryz.prog 54 #[v, .int .i64 (k : Int)] w fun e w' => e = .returned (.int .i64 ((k + 2 * n : Nat) : Int)) ∧ Below w.heap.size w w' := by
  obtain ⟨a, cap, rfl⟩ := ha.slice
  rw [mkA_len] at ha ⊢
  have HA := hid ha
  clear ha
  go_enter Tryz.func54, Tryz.ntmps54
  go_wp2
  go_loopw [1, 5] (fun q i wr => ∃ (j : Nat), i = .int .i64 j ∧ q = .int .i64 ((k + 2 * j : Nat) : Int) ∧ j ≤ n ∧ Hid (Below w.heap.size w wr)) (fun _ i _ => n - (intOf i).toNat)
  case atStart => exact ⟨0, rfl, by simp, Nat.zero_le _, hid (Below.refl _ _)⟩
  case round =>
    obtain ⟨j, rfl, rfl, hj, HB⟩ := hrel
    by_cases hlt : j < n
    · have q1 : (j : Int) < (n : Int) := by omega
      obtain ⟨g, o, rfl, hg, c0, c1⟩ := (HA.out.below HB.out).at (i := j) (by rw [mkA_len]; exact hlt)
      rw [mkA_get] at c0 c1
      have HM1 := hid (fun wx => markText (k + 2 * j) wx (by omega) (by omega))
      have HM2 := hid (fun wx => markText (k + 2 * j + 1) wx (by omega) (by omega))
      have hn1 := mt_ne (k + 2 * j)
      have hn2 := mt_ne (k + 2 * j + 1)
      go_wp2_with fail
      have t0 : wr.drew.cell? ⟨g, o + j * 2, none⟩ = some (.string (mt (k + 2 * j))) := c0
      have t1d : wr.drew.cell? ⟨g, o + j * 2 + 1, none⟩ = some (.string (mt (k + 2 * j + 1))) := c1
      have hgd : g < wr.drew.heap.size := hg
      have HBd : Hid (Below w.heap.size w wr.drew) := hid HB.out.drew
      have hWd : w.heap.size ≤ wr.drew.heap.size := HB.out.size
      refine wp_region_held_drew (S := fun wx => wx.cell? ⟨g, o + j * 2, none⟩ = some (.string (mt (k + 2 * j))) ∧ Below w.heap.size w wx) (by kernel_rfl) ⟨t0, HBd.out⟩ (fun hHeld => ?_)
      refine wpAnyH_take (i := 0) (oi := { dst := some 12, op := Go.Op.move (Go.Operand.tmp 0), type := 51, pos := "exact.go:361", after := #[], guard := none }) (v := .slice (some ⟨g, o, none⟩) n cap) rfl (by kernel_rfl) (by kernel_rfl) (by kernel_rfl) (fun _ _ _ h => h) (Or.inl ⟨by rfl, by intro w hSw; (try dsimp only at hSw); go_simp⟩) (by assumption) ?_
      simp only [Act.put, List.setIfInBounds_toArray, List.set_cons_zero, List.set_cons_succ]
      refine wpAnyH_take (i := 1) (oi := { dst := some 13, op := Go.Op.move (Go.Operand.tmp 5), type := 3, pos := "exact.go:361", after := #[], guard := none }) (v := .int .i64 (j : Int)) rfl (by kernel_rfl) (by kernel_rfl) (by kernel_rfl) (fun _ _ _ h => h) (Or.inl ⟨by rfl, by intro w hSw; (try dsimp only at hSw); go_simp⟩) (by assumption) ?_
      simp only [Act.put, List.setIfInBounds_toArray, List.set_cons_zero, List.set_cons_succ]
      refine wpAnyH_take (i := 2) (oi := { dst := some 14, op := Go.Op.indexAddr 51 (Go.Operand.tmp 12) (Go.Operand.tmp 13), type := 0, pos := "exact.go:361", after := #[{ on := 0, ground := Go.Ground.data }, { on := 1, ground := Go.Ground.data }], guard := none }) (v := .pointer (some ⟨g, o + j * 2, none⟩)) rfl (by kernel_rfl) (by kernel_rfl) (by kernel_rfl) (fun _ _ _ h => h) (Or.inl ⟨by rfl, by intro w hSw; (try dsimp only at hSw); go_simp⟩) (by assumption) ?_
      simp only [Act.put, List.setIfInBounds_toArray, List.set_cons_zero, List.set_cons_succ]
      refine wpAnyH_take (i := 3) (oi := { dst := some 15, op := Go.Op.fieldAddr 68 (Go.Operand.tmp 14) 0, type := 0, pos := "exact.go:361", after := #[{ on := 2, ground := Go.Ground.data }], guard := none }) (v := .pointer (some ⟨g, o + j * 2, none⟩)) rfl (by kernel_rfl) (by kernel_rfl) (by kernel_rfl) (fun _ _ _ h => h) (Or.inl ⟨by rfl, by intro w hSw; (try dsimp only at hSw); go_simp⟩) (by assumption) ?_
      simp only [Act.put, List.setIfInBounds_toArray, List.set_cons_zero, List.set_cons_succ]
      refine wpAnyH_take (i := 4) (oi := { dst := some 16, op := Go.Op.load 9 (Go.Operand.tmp 15), type := 9, pos := "exact.go:361", after := #[{ on := 3, ground := Go.Ground.data }], guard := none }) (v := .string (mt (k + 2 * j))) rfl (by kernel_rfl) (by kernel_rfl) (by kernel_rfl) (fun _ _ _ h => h) (Or.inl ⟨by rfl, by intro w hSw; (try dsimp only at hSw); go_simp⟩) (by assumption) ?_
      simp only [Act.put, List.setIfInBounds_toArray, List.set_cons_zero, List.set_cons_succ]
      refine wpAnyH_take (i := 5) (oi := { dst := some 17, op := Go.Op.move (Go.Operand.tmp 1), type := 3, pos := "exact.go:361", after := #[], guard := none }) (v := .int .i64 ((k + 2 * j : Nat) : Int)) rfl (by kernel_rfl) (by kernel_rfl) (by kernel_rfl) (fun _ _ _ h => h) (Or.inl ⟨by rfl, by intro w hSw; (try dsimp only at hSw); go_simp⟩) (by assumption) ?_
      simp only [Act.put, List.setIfInBounds_toArray, List.set_cons_zero, List.set_cons_succ]
      refine wpAnyH_ready (rs := [6]) (by kernel_rfl) (by simp) ?_
      refine AllReadyH.cons (o := { dst := some 18, op := Go.Op.call { callee := Go.Callee.value (Go.Operand.func 27), args := #[Go.Operand.tmp 17], argTypes := #[3] }, type := 9, pos := "exact.go:361", after := #[{ on := 5, ground := Go.Ground.data }], guard := none }) rfl (fun K hK => ?_) AllReadyH.nil
      go_simp
      go_at_call 27
      refine (HM1.out _).mono ?_
      rintro e w1 ⟨rfl, hb1⟩
      have g0 := kept_cell hb1 hgd t0
      have HB1 := hid (HBd.out.trans (hb1.mono hWd))
      have l1 : wr.heap.size ≤ w1.heap.size := hb1.size
      have t1 := kept_cell hb1 hgd t1d
      clear hb1
      go_wp2_with fail
      refine hK.out _ _ ⟨g0, HB1.out⟩ (fun hHeld => ?_)
      clear hK K
      try simp only [Act.put, List.setIfInBounds_toArray, List.set_cons_zero, List.set_cons_succ]
      refine wpAnyH_take (i := 7) (oi := { dst := some 19, op := Go.Op.binOp Go.BinOp.neq 9 (Go.Operand.tmp 16) (Go.Operand.tmp 18) 9, type := 4, pos := "exact.go:361", after := #[{ on := 4, ground := Go.Ground.data }, { on := 6, ground := Go.Ground.data }], guard := none }) (v := .bool false) rfl (by kernel_rfl) (by kernel_rfl) (by kernel_rfl) (fun _ _ _ h => h) (Or.inl ⟨by rfl, by intro w hSw; (try dsimp only at hSw); go_simp⟩) (by assumption) ?_
      simp only [Act.put, List.setIfInBounds_toArray, List.set_cons_zero, List.set_cons_succ]
      refine wpAnyH_done (by kernel_rfl) ?_ _
      have E1 : Hid (Value.int .i64 ((k + 2 * j : Nat) : Int) = .int .i64 ((k + 2 * j : Nat) : Int)) := hid rfl
      go_wp2_with fail
      have t2 : w1.drew.cell? ⟨g, o + j * 2 + 1, none⟩ = some (.string (mt (k + 2 * j + 1))) := t1
      have hgd1 : g < w1.drew.heap.size := Nat.lt_of_lt_of_le hg l1
      have HB1d : Hid (Below w.heap.size w w1.drew) := hid HB1.out.drew
      have hWd1 : w.heap.size ≤ w1.drew.heap.size := HB1.out.size
      refine wp_region_held_drew (S := fun wx => wx.cell? ⟨g, o + j * 2 + 1, none⟩ = some (.string (mt (k + 2 * j + 1))) ∧ Below w.heap.size w wx) (by kernel_rfl) ⟨t2, HB1d.out⟩ (fun hHeld => ?_)
      refine wpAnyH_take (i := 0) (oi := { dst := some 22, op := Go.Op.move (Go.Operand.tmp 0), type := 51, pos := "exact.go:365", after := #[], guard := none }) (v := .slice (some ⟨g, o, none⟩) n cap) rfl (by kernel_rfl) (by kernel_rfl) (by kernel_rfl) (fun _ _ _ h => h) (Or.inl ⟨by rfl, by intro w hSw; (try dsimp only at hSw); go_simp⟩) (by assumption) ?_
      simp only [Act.put, List.setIfInBounds_toArray, List.set_cons_zero, List.set_cons_succ]
      refine wpAnyH_take (i := 1) (oi := { dst := some 23, op := Go.Op.move (Go.Operand.tmp 5), type := 3, pos := "exact.go:365", after := #[], guard := none }) (v := .int .i64 (j : Int)) rfl (by kernel_rfl) (by kernel_rfl) (by kernel_rfl) (fun _ _ _ h => h) (Or.inl ⟨by rfl, by intro w hSw; (try dsimp only at hSw); go_simp⟩) (by assumption) ?_
      simp only [Act.put, List.setIfInBounds_toArray, List.set_cons_zero, List.set_cons_succ]
      refine wpAnyH_take (i := 2) (oi := { dst := some 24, op := Go.Op.indexAddr 51 (Go.Operand.tmp 22) (Go.Operand.tmp 23), type := 0, pos := "exact.go:365", after := #[{ on := 0, ground := Go.Ground.data }, { on := 1, ground := Go.Ground.data }], guard := none }) (v := .pointer (some ⟨g, o + j * 2, none⟩)) rfl (by kernel_rfl) (by kernel_rfl) (by kernel_rfl) (fun _ _ _ h => h) (Or.inl ⟨by rfl, by intro w hSw; (try dsimp only at hSw); go_simp⟩) (by assumption) ?_
      simp only [Act.put, List.setIfInBounds_toArray, List.set_cons_zero, List.set_cons_succ]
      refine wpAnyH_take (i := 3) (oi := { dst := some 25, op := Go.Op.fieldAddr 68 (Go.Operand.tmp 24) 1, type := 0, pos := "exact.go:365", after := #[{ on := 2, ground := Go.Ground.data }], guard := none }) (v := .pointer (some ⟨g, o + j * 2 + 1, none⟩)) rfl (by kernel_rfl) (by kernel_rfl) (by kernel_rfl) (fun _ _ _ h => h) (Or.inl ⟨by rfl, by intro w hSw; (try dsimp only at hSw); go_simp⟩) (by assumption) ?_
      simp only [Act.put, List.setIfInBounds_toArray, List.set_cons_zero, List.set_cons_succ]
      refine wpAnyH_take (i := 4) (oi := { dst := some 26, op := Go.Op.load 9 (Go.Operand.tmp 25), type := 9, pos := "exact.go:365", after := #[{ on := 3, ground := Go.Ground.data }], guard := none }) (v := .string (mt (k + 2 * j + 1))) rfl (by kernel_rfl) (by kernel_rfl) (by kernel_rfl) (fun _ _ _ h => h) (Or.inl ⟨by rfl, by intro w hSw; (try dsimp only at hSw); go_simp⟩) (by assumption) ?_
      simp only [Act.put, List.setIfInBounds_toArray, List.set_cons_zero, List.set_cons_succ]
      refine wpAnyH_take (i := 5) (oi := { dst := some 27, op := Go.Op.move (Go.Operand.tmp 1), type := 3, pos := "exact.go:365", after := #[], guard := none }) (v := .int .i64 ((k + 2 * j + 1 : Nat) : Int)) rfl (by kernel_rfl) (by kernel_rfl) (by kernel_rfl) (fun _ _ _ h => h) (Or.inl ⟨by rfl, by intro w hSw; (try dsimp only at hSw); go_simp⟩) (by assumption) ?_
      simp only [Act.put, List.setIfInBounds_toArray, List.set_cons_zero, List.set_cons_succ]
      refine wpAnyH_ready (rs := [6]) (by kernel_rfl) (by simp) ?_
      refine AllReadyH.cons (o := { dst := some 28, op := Go.Op.call { callee := Go.Callee.value (Go.Operand.func 27), args := #[Go.Operand.tmp 27], argTypes := #[3] }, type := 9, pos := "exact.go:365", after := #[{ on := 5, ground := Go.Ground.data }], guard := none }) rfl (fun K hK => ?_) AllReadyH.nil
      go_simp
      go_at_call 27
      refine (HM2.out _).mono ?_
      rintro e w2 ⟨rfl, hb2⟩
      have g2 := kept_cell hb2 hgd1 t2
      have HB2 := hid (HB1d.out.trans (hb2.mono hWd1))
      clear hb2
      go_wp2_with fail
      refine hK.out _ _ ⟨g2, HB2.out⟩ (fun hHeld => ?_)
      clear hK K
      try simp only [Act.put, List.setIfInBounds_toArray, List.set_cons_zero, List.set_cons_succ]
      refine wpAnyH_take (i := 7) (oi := { dst := some 29, op := Go.Op.binOp Go.BinOp.neq 9 (Go.Operand.tmp 26) (Go.Operand.tmp 28) 9, type := 4, pos := "exact.go:365", after := #[{ on := 4, ground := Go.Ground.data }, { on := 6, ground := Go.Ground.data }], guard := none }) (v := .bool false) rfl (by kernel_rfl) (by kernel_rfl) (by kernel_rfl) (fun _ _ _ h => h) (Or.inl ⟨by rfl, by intro w hSw; (try dsimp only at hSw); go_simp⟩) (by assumption) ?_
      simp only [Act.put, List.setIfInBounds_toArray, List.set_cons_zero, List.set_cons_succ]
      refine wpAnyH_done (by kernel_rfl) ?_ _
      go_wp2
      exact ⟨⟨j + 1, by simp, by simp; omega, by omega, HB2⟩, by simp [intOf]; omega⟩
    · obtain rfl : j = n := by omega
      go_wp2
      go_ret
      exact ⟨rfl, HB.out⟩
set_option maxRecDepth 100000 in
set_option maxHeartbeats 8000000 in
theorem heldElems (B : Nat) (es : List ElemD) (v : Value) (w : World) (hn : es.length ≤ 64) (hm : ∀ j, j < es.length → (EJ es j).attrs.length ≤ 64) (ha : ElemsAt w B v (mkE es)) :
    Calls Tryz.prog 30 #[v, .int .i64 1] w fun e w' => e = .returned (.int .i64 (kAt es es.length : Int)) ∧ Below w.heap.size w w' := by
  obtain ⟨a, cap, rfl⟩ := ha.slice
  have HA := hid ha
  have HM := hid hm
  have HK := hid (fun i (hi : i ≤ es.length) => kAt_le hm i hi)
  have HP := hid (kAt_pos es)
  have hml := mkE_len es
  have HML := hid hml
  clear ha hm hml
  go_enter Tryz.func30, Tryz.ntmps30
  go_wp2
  go_loopw [1, 5] (fun q i wr => ∃ (j : Nat), i = .int .i64 j ∧ q = .int .i64 (kAt es j : Int) ∧ j ≤ es.length ∧ Hid (Below w.heap.size w wr)) (fun _ i _ => es.length - (intOf i).toNat)
  case atStart => exact ⟨0, rfl, by simp [kAt], Nat.zero_le _, hid (Below.refl _ _)⟩
  case round =>
    obtain ⟨j, rfl, rfl, hj, HB⟩ := hrel
    by_cases hlt : j < es.length
    · have q1 : (j : Int) < ((mkE es).length : Int) := by have := HML.out; omega
      have hlt2 : j < (mkE es).length := by have := HML.out; omega
      obtain ⟨g, o, va, rfl, hg, c0, c1, c2, hva⟩ := (HA.out.below HB.out).at (i := j) hlt2
      rw [mkE_get] at c0 c1 hva
      have hkj := HK.out j (by omega)
      have hpj := HP.out j
      have hmj := HM.out j hlt
      have HKS : Hid (kAt es (j + 1) = kAt es j + 2 + 2 * (EJ es j).attrs.length) := hid rfl
      replace c0 : wr.cell? ⟨g, o + j * 3, none⟩ = some (.string (mt (kAt es j))) := c0
      replace c1 : wr.cell? ⟨g, o + j * 3 + 1, none⟩ = some (.int .i64 ((kAt es j + 1 : Nat) : Int)) := c1
      replace hva : AttrsAt wr B va (mkA (kAt es j + 2) (EJ es j).attrs.length) := hva
      obtain ⟨a2, cap2, rfl⟩ := hva.slice
      have HVA := hid hva
      generalize hkk : kAt es j = k at *
      clear hkk hva
      have HM1 := hid (fun wx => markText k wx (by omega) (by omega))
      have hn1 := mt_ne k
      go_wp2_with fail
      have t0 : wr.drew.cell? ⟨g, o + j * 3, none⟩ = some (.string (mt k)) := c0
      have t1d : wr.drew.cell? ⟨g, o + j * 3 + 1, none⟩ = some (.int .i64 ((k + 1 : Nat) : Int)) := c1
      have t2d : wr.drew.cell? ⟨g, o + j * 3 + 2, none⟩ = some (.slice a2 (mkA (k + 2) (EJ es j).attrs.length).length cap2) := c2
      have hgd : g < wr.drew.heap.size := hg
      have HBd : Hid (Below w.heap.size w wr.drew) := hid HB.out.drew
      have hDr : Below wr.heap.size wr wr.drew := (Below.refl _ wr).drew
      have hWd : w.heap.size ≤ wr.drew.heap.size := HB.out.size
      refine wp_region_held_drew (S := fun wx => wx.cell? ⟨g, o + j * 3, none⟩ = some (.string (mt k)) ∧ Below w.heap.size w wx) (by kernel_rfl) ⟨t0, HBd.out⟩ (fun hHeld => ?_)
      refine wpAnyH_take (i := 0) (oi := { dst := some 12, op := Go.Op.move (Go.Operand.tmp 0), type := 24, pos := "exact.go:386", after := #[], guard := none }) (v := .slice (some ⟨g, o, none⟩) (mkE es).length cap) rfl (by kernel_rfl) (by kernel_rfl) (by kernel_rfl) (fun _ _ _ h => h) (Or.inl ⟨by rfl, by intro w hSw; (try dsimp only at hSw); go_simp⟩) (by assumption) ?_
      simp only [Act.put, List.setIfInBounds_toArray, List.set_cons_zero, List.set_cons_succ]
      refine wpAnyH_take (i := 1) (oi := { dst := some 13, op := Go.Op.move (Go.Operand.tmp 5), type := 3, pos := "exact.go:386", after := #[], guard := none }) (v := .int .i64 (j : Int)) rfl (by kernel_rfl) (by kernel_rfl) (by kernel_rfl) (fun _ _ _ h => h) (Or.inl ⟨by rfl, by intro w hSw; (try dsimp only at hSw); go_simp⟩) (by assumption) ?_
      simp only [Act.put, List.setIfInBounds_toArray, List.set_cons_zero, List.set_cons_succ]
      refine wpAnyH_take (i := 2) (oi := { dst := some 14, op := Go.Op.indexAddr 24 (Go.Operand.tmp 12) (Go.Operand.tmp 13), type := 0, pos := "exact.go:386", after := #[{ on := 0, ground := Go.Ground.data }, { on := 1, ground := Go.Ground.data }], guard := none }) (v := .pointer (some ⟨g, o + j * 3, none⟩)) rfl (by kernel_rfl) (by kernel_rfl) (by kernel_rfl) (fun _ _ _ h => h) (Or.inl ⟨by rfl, by intro w hSw; (try dsimp only at hSw); go_simp⟩) (by assumption) ?_
      simp only [Act.put, List.setIfInBounds_toArray, List.set_cons_zero, List.set_cons_succ]
      refine wpAnyH_take (i := 3) (oi := { dst := some 15, op := Go.Op.fieldAddr 53 (Go.Operand.tmp 14) 0, type := 0, pos := "exact.go:386", after := #[{ on := 2, ground := Go.Ground.data }], guard := none }) (v := .pointer (some ⟨g, o + j * 3, none⟩)) rfl (by kernel_rfl) (by kernel_rfl) (by kernel_rfl) (fun _ _ _ h => h) (Or.inl ⟨by rfl, by intro w hSw; (try dsimp only at hSw); go_simp⟩) (by assumption) ?_
      simp only [Act.put, List.setIfInBounds_toArray, List.set_cons_zero, List.set_cons_succ]
      refine wpAnyH_take (i := 4) (oi := { dst := some 16, op := Go.Op.load 9 (Go.Operand.tmp 15), type := 9, pos := "exact.go:386", after := #[{ on := 3, ground := Go.Ground.data }], guard := none }) (v := .string (mt k)) rfl (by kernel_rfl) (by kernel_rfl) (by kernel_rfl) (fun _ _ _ h => h) (Or.inl ⟨by rfl, by intro w hSw; (try dsimp only at hSw); go_simp⟩) (by assumption) ?_
      simp only [Act.put, List.setIfInBounds_toArray, List.set_cons_zero, List.set_cons_succ]
      refine wpAnyH_take (i := 5) (oi := { dst := some 17, op := Go.Op.move (Go.Operand.tmp 1), type := 3, pos := "exact.go:386", after := #[], guard := none }) (v := .int .i64 (k : Int)) rfl (by kernel_rfl) (by kernel_rfl) (by kernel_rfl) (fun _ _ _ h => h) (Or.inl ⟨by rfl, by intro w hSw; (try dsimp only at hSw); go_simp⟩) (by assumption) ?_
      simp only [Act.put, List.setIfInBounds_toArray, List.set_cons_zero, List.set_cons_succ]
      refine wpAnyH_ready (rs := [6]) (by kernel_rfl) (by simp) ?_
      refine AllReadyH.cons (o := { dst := some 18, op := Go.Op.call { callee := Go.Callee.value (Go.Operand.func 27), args := #[Go.Operand.tmp 17], argTypes := #[3] }, type := 9, pos := "exact.go:386", after := #[{ on := 5, ground := Go.Ground.data }], guard := none }) rfl (fun K hK => ?_) AllReadyH.nil
      go_simp
      go_at_call 27
      refine (HM1.out _).mono ?_
      rintro e w1 ⟨rfl, hb1⟩
      have g0 := kept_cell hb1 hgd t0
      have HB1 := hid (HBd.out.trans (hb1.mono hWd))
      have hbr : Below wr.heap.size wr w1 := hDr.trans hb1
      have l1 : wr.heap.size ≤ w1.heap.size := hb1.size
      have t1 := kept_cell hb1 hgd t1d
      have t2 := kept_cell hb1 hgd t2d
      clear hb1
      go_wp2_with fail
      refine hK.out _ _ ⟨g0, HB1.out⟩ (fun hHeld => ?_)
      clear hK K
      try simp only [Act.put, List.setIfInBounds_toArray, List.set_cons_zero, List.set_cons_succ]
      refine wpAnyH_take (i := 7) (oi := { dst := some 19, op := Go.Op.binOp Go.BinOp.neq 9 (Go.Operand.tmp 16) (Go.Operand.tmp 18) 9, type := 4, pos := "exact.go:386", after := #[{ on := 4, ground := Go.Ground.data }, { on := 6, ground := Go.Ground.data }], guard := none }) (v := .bool false) rfl (by kernel_rfl) (by kernel_rfl) (by kernel_rfl) (fun _ _ _ h => h) (Or.inl ⟨by rfl, by intro w hSw; (try dsimp only at hSw); go_simp⟩) (by assumption) ?_
      simp only [Act.put, List.setIfInBounds_toArray, List.set_cons_zero, List.set_cons_succ]
      refine wpAnyH_done (by kernel_rfl) ?_ _
      have HHA := hid (heldAttrs B (EJ es j).attrs.length (k + 2) _ w1 (by omega) (by omega) (by omega) (HVA.out.below hbr))
      rw [show ((k + 2 : Nat) : Int) = (k : Int) + 1 + 1 by omega] at HHA
      have b2 : (((k + 1 : Nat) : Int) != (k : Int) + 1) = false := by simp
      have b3 : ((k : Int) + 1 != (k : Int) + 1) = false := by simp
      have hg1 : g < w1.heap.size := Nat.lt_of_lt_of_le hg l1
      go_wp2_with fail
      refine HHA.out.mono ?_
      rintro e w2 ⟨rfl, hb2⟩
      have HB2 := hid (HB1.out.trans (hb2.mono HB1.out.size))
      have b4 : ¬ ((k + 2 + 2 * (EJ es j).attrs.length : Nat) : Int) < 0 := by omega
      clear hb2 HHA
      go_wp2
      exact ⟨⟨j + 1, by simp, by rw [HKS.out]; simp, by omega, HB2⟩, by simp [intOf]; omega⟩
    · obtain rfl : j = es.length := by omega
      have q1 : ¬ (es.length : Int) < ((mkE es).length : Int) := by have := HML.out; omega
      go_wp2
      go_ret
      exact ⟨rfl, HB.out⟩
/-- The answer's elements lie in blocks of that range. -/
def EIn (w : World) (B C : Nat) (v : Value) (es : List ElemD) : Prop := ∃ F, EAt w B v es F ∧ (∀ b, own v b → b < C) ∧ ∀ j, j < es.length → ∀ b, own (F j) b → b < C
theorem EOwn.into {w : World} {B : Nat} {v : Value} {es : List ElemD} (h : EOwn w B v es) : EIn w B w.heap.size v es := by
  obtain ⟨F, h⟩ := h
  exact ⟨F, h, fun b hb => (Nst.own_lt h.row hb).2, fun j hj b hb => (Nst.own_lt (h.sub j hj) hb).2⟩
theorem EIn.own {w : World} {B C : Nat} {v : Value} {es : List ElemD} (h : EIn w B C v es) : EOwn w B v es := by
  obtain ⟨F, h, _⟩ := h; exact ⟨F, h⟩
theorem EIn.keep {w w' : World} {B C : Nat} {v : Value} {es : List ElemD} (h : EIn w B C v es) (hb : ∀ b, B ≤ b → b < C → w'.heap[b]? = w.heap[b]?) : EIn w' B C v es := by
  obtain ⟨F, h, h1, h2⟩ := h
  exact ⟨F, h.kept (fun b hv => hb b (Nst.own_lt h.row hv).1 (h1 b hv)) (fun j hj b hv => hb b (Nst.own_lt (h.sub j hj) hv).1 (h2 j hj b hv)), h1, h2⟩
theorem EIn.below {w w' : World} {B C : Nat} {v : Value} {es : List ElemD} (h : EIn w B C v es) (hC : C ≤ w.heap.size) (hb : Below w.heap.size w w') : EIn w' B C v es := h.keep (fun b _ hl => hb.block b (by omega))
theorem markElems (B C : Nat) (es : List ElemD) (v : Value) (w : World) (hn : es.length ≤ 64) (hm : ∀ j, j < es.length → (EJ es j).attrs.length ≤ 64) (h : EIn w B C v es) :
    Calls Tryz.prog 29 #[v, .int .i64 1] w fun e w' => e = .returned (.int .i64 (kAt es es.length : Int)) ∧ EOwn w' B v (mkE es) ∧ Amid w w' B C := by
  obtain ⟨F, h, h1, h2⟩ := h
  rcases Nat.eq_zero_or_pos es.length with e | e
  · have e2 : es = [] := List.eq_nil_of_length_eq_zero e
    subst e2
    obtain ⟨a, cap, rfl⟩ := Nst.own_slice h.row
    have H := hid h
    clear h h1 h2
    go_enter Tryz.func29, Tryz.ntmps29
    go_wp2
    refine wp_loop_rounds 2 ?_
    rw [rounds_succ]
    go_wp2
    go_ret
    exact ⟨by simp [kAt], ⟨F, H.out⟩, Amid.refl _ _ _⟩
  · obtain ⟨g, cap, rfl, _⟩ := Nst.own_some h.row e
    exact markElems1 B C g cap es F w hn hm h (h1 g rfl) h2
set_option maxRecDepth 100000 in
set_option maxHeartbeats 2000000 in
theorem markRes (B C : Nat) (c : Int) (es : List ElemD) (v : Value) (w : World) (hC : C ≤ w.heap.size) (hn : es.length ≤ 64) (hm : ∀ j, j < es.length → (EJ es j).attrs.length ≤ 64) (h : EIn w B C v es) :
    Calls Tryz.prog 12 #[.agg #[.int .i64 c, .int .i64 0, v], .int .i64 1] w fun e w' => e = .returned (.int .i64 (kAt es es.length : Int)) ∧ EOwn w' B v (mkE es) ∧ Amid w w' B C := by
  have hx : Below w.heap.size w (w.alloc (.cells #[.int .i64 c, .int .i64 0, v] 26)) := (Below.refl _ w).alloc (Nat.le_refl _) _
  have HM := hid (markElems B C es v _ hn hm (h.below hC hx))
  obtain ⟨a, cap, rfl⟩ := h.own.slice
  have HX := hid hx
  clear h hx hm
  go_enter Tryz.func12, Tryz.ntmps12
  go_wp2_with fail
  refine HM.out.mono ?_
  rintro e w1 ⟨rfl, ho, hA⟩
  have HO := hid ho
  have HA := hid hA
  clear ho hA
  go_wp2
  go_ret
  exact ⟨rfl, HO.out, (Amid.of_below HX.out).trans HA.out⟩
set_option maxRecDepth 100000 in
set_option maxHeartbeats 2000000 in
theorem heldRes (B : Nat) (c : Int) (es : List ElemD) (v : Value) (w : World) (hn : es.length ≤ 64) (hm : ∀ j, j < es.length → (EJ es j).attrs.length ≤ 64) (h : ElemsAt w B v (mkE es)) :
    Calls Tryz.prog 13 #[.agg #[.int .i64 c, .int .i64 0, v], .int .i64 1] w fun e w' => e = .returned (.int .i64 (kAt es es.length : Int)) ∧ Below w.heap.size w w' := by
  have hx : Below w.heap.size w (w.alloc (.cells #[.int .i64 c, .int .i64 0, v] 26)) := (Below.refl _ w).alloc (Nat.le_refl _) _
  have HM := hid (heldElems B es v _ hn hm (h.below hx))
  obtain ⟨a, cap, rfl⟩ := h.slice
  have HX := hid hx
  clear h hx hm
  generalize hkk : kAt es es.length = kk at *
  clear hkk
  have b1 : ¬ (kk : Int) < 0 := by omega
  go_enter Tryz.func13, Tryz.ntmps13
  go_wp2_with fail
  refine HM.out.mono ?_
  rintro e w1 ⟨rfl, hb⟩
  have HB := hid hb
  clear hb
  go_wp2
  go_ret
  exact ⟨rfl, HX.out.trans (HB.out.mono HX.out.size)⟩
set_option maxRecDepth 100000 in
set_option maxHeartbeats 2000000 in
theorem eqRes (B1 B2 : Nat) (c : Int) (es : List ElemD) (v1 v2 : Value) (w : World) (hl : Tr.SmallE 1048576 es) (h1 : ElemsAt w B1 v1 es) (h2 : ElemsAt w B2 v2 es) :
    Calls Tryz.prog 9 #[.agg #[.int .i64 c, .int .i64 0, v1], .agg #[.int .i64 c, .int .i64 0, v2]] w fun e w' => e = .returned (.bool true) ∧ Below w.heap.size w w' := by
  have hx : Below w.heap.size w ((w.alloc (.cells #[.int .i64 c, .int .i64 0, v1] 26)).alloc (.cells #[.int .i64 c, .int .i64 0, v2] 26)) := ((Below.refl _ w).alloc (Nat.le_refl _) _).alloc (by simp) _
  have HM := hid (Tr.eqElemS B1 B2 es v1 v2 _ hl (h1.below hx) (h2.below hx))
  obtain ⟨a, cap, rfl⟩ := h1.slice
  obtain ⟨a2, cap2, rfl⟩ := h2.slice
  have HX := hid hx
  clear h1 h2 hx
  have e1 : (c != c) = false := by simp
  go_enter Tryz.func9, Tryz.ntmps9
  go_wp2_with fail
  refine HM.out.mono ?_
  rintro e w1 ⟨rfl, hb⟩
  have HB := hid hb
  clear hb
  go_wp2
  go_ret
  exact ⟨rfl, HX.out.trans (HB.out.mono HX.out.size)⟩
end Tf
end Go.Proofs.YtgghigfflpbjiaaGreatDoor
