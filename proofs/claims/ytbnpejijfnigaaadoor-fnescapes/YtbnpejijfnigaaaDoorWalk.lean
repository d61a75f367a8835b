/- The law on escapes, walked. Condition: the table of entities lies as its initialiser lays it. -/
import Derived.Test.YtbnpejijfnigaaaDoorDraw5
import Derived.Deep.RegionHeld3
import Derived.Deep.CutRange
namespace Go.Proofs.YtbnpejijfnigaaaDoor
open Go.Shelf Go.RowKit
set_option linter.unusedVariables false
namespace Un
open Esc
theorem big (len cap : Nat) (a : Option Addr) (w : World) (hl : len ≤ maxLen) : Calls Tryd.prog 4 #[.slice a len cap] w fun e w' => e = .returned (.bool (decide (1048576 < len))) ∧ w' = w := by
  unfold maxLen at hl
  by_cases h : 1048576 < len
  · have q : (1048576 : Int) < (len : Int) := by omega
    go_enter Tryd.func4, Tryd.ntmps4
    go_wp2
    go_ret
    exact ⟨by simp [h], rfl⟩
  · have q : ¬ (1048576 : Int) < (len : Int) := by omega
    go_enter Tryd.func4, Tryd.ntmps4
    go_wp2
    go_ret
    exact ⟨by simp, rfl⟩
theorem fld0 (c : Int) (t : ByteArray) (w : World) : Sem.run Tryd.prog (Instr.field 26 (.agg #[.int .i64 c, .string t]) 0) w = .ok (.int .i64 c) w := by kernel_rfl
theorem fld1 (c : Int) (t : ByteArray) (w : World) : Sem.run Tryd.prog (Instr.field 26 (.agg #[.int .i64 c, .string t]) 1) w = .ok (.string t) w := by kernel_rfl
theorem vcode_of {l : List UInt8} (hp : plainAll l = true) (h : l.length ≤ 40) : vcode l = 0 := by
  unfold vcode; rw [if_neg (by omega), if_neg (by rw [hp]; decide)]
theorem plain_of {l : List UInt8} (h : vcode l = 0) : plainAll l = true ∧ l.length ≤ 40 := by
  unfold vcode at h
  split at h
  · cases h
  · split at h
    · cases h
    · rename_i h1 h2
      exact ⟨by simpa using h2, by omega⟩
theorem mk_list (l : List UInt8) : (ByteArray.mk l.toArray).data.toList = l := by simp
theorem mk_size (l : List UInt8) : (ByteArray.mk l.toArray).size = l.length := by simp [ByteArray.size]
theorem ba_eq (s : ByteArray) : (⟨s.data.toList.toArray⟩ : ByteArray) = s := by apply ByteArray.ext; simp
theorem code_later {len : Nat} {w w' : World} {a : Option Addr} (h : Drw.CodeAt w.heap.size w a len) (hb : Below w.heap.size w w') : Drw.CodeAt w'.heap.size w' a len := by
  rcases h with h | ⟨b, off, rfl, h0, hc⟩
  · exact .inl h
  · exact .inr ⟨b, off, rfl, Nat.lt_of_lt_of_le h0 hb.size, fun i hi => by
      obtain ⟨z, hz, hcz⟩ := hc i hi
      exact ⟨z, hz, (hb.cell (p := ⟨b, off + i, none⟩) h0).trans hcz⟩⟩
/-- What is escaped of a plain text is read back by the program's own UnescapeText. -/
theorem backs {l : List UInt8} (hp : plainAll l = true) (h40 : l.length ≤ 40) (w : World) (he : Ent w) (hw : 0 < w.heap.size) :
    Calls Tryd.prog 6 #[.string ⟨(escAll l).toArray⟩] w fun e w' => e = .returned (.agg #[.int .i64 0, .string ⟨l.toArray⟩]) ∧ Below w.heap.size w w' := by
  have h := implUn ⟨(escAll l).toArray⟩ w (by rw [mk_size]; have := escAll_len l; unfold maxLen; omega) (by rw [mk_list]; exact noz_esc l) he hw
  rw [mk_list, u_back hp (by omega)] at h
  exact h
/-- EscapeText of a plain text. -/
theorem escs {l : List UInt8} (hp : plainAll l = true) (h40 : l.length ≤ 40) (w : World) (he : Ent w) (hw : 0 < w.heap.size) :
    Calls Tryd.prog 8 #[.string ⟨l.toArray⟩] w fun e w' => e = .returned (.agg #[.int .i64 0, .string ⟨(escAll l).toArray⟩]) ∧ Below w.heap.size w w' := by
  have h := implEsc ⟨l.toArray⟩ w (by rw [mk_size]; unfold maxLen; omega) he hw
  rw [mk_list, escVal_ok (vcode_of hp h40)] at h
  exact h
theorem sign_at {l : List UInt8} {s : ByteArray} (hs : s = ⟨(escAll l).toArray⟩) (k : Nat) (h : k < s.size) : s[k].toNat ≠ 60 ∧ s[k].toNat ≠ 62 ∧ s[k].toNat ≠ 34 := by
  subst hs
  refine escAll_signs l _ ?_
  show (escAll l).toArray[k]'_ ∈ _
  simp
set_option maxHeartbeats 8000000 in
theorem escapes (len cap : Nat) (a : Option Addr) (w : World) (hc : Drw.CodeAt w.heap.size w a len) (hl : len ≤ maxLen) (he : Ent w) (hw : 0 < w.heap.size) :
    Calls Tryd.prog 3 #[.slice a len cap] w fun e w' => e = .returned (.bool true) ∧ Below w.heap.size w w' := by
  have HC := hid hc
  have HE := hid he
  clear hc he
  go_enter Tryd.func3, Tryd.ntmps3
  go_wp2_with fail
  refine (big len cap a _ hl).mono ?_
  rintro e w0 ⟨rfl, rfl⟩
  by_cases hb : 1048576 < len
  · rw [decide_eq_true hb]
    go_wp2
    go_ret
    exact ⟨rfl, Below.refl _ _⟩
  rw [decide_eq_false hb]
  go_wp2_with fail
  refine (Drw.draw len cap a _ HC.out (by omega)).mono ?_
  rintro e w1 ⟨s, hs, hz, rfl, hb1⟩
  have hz1 := hb1.size
  have HZ := hid hz
  have HSU : Hid (∀ w, Calls Tryd.prog 7 #[.string s] w fun e w' => e = .returned (unVal s.data.toList) ∧ Below w.heap.size w w') := hid (fun w => specUn s w (by unfold maxLen; omega))
  clear hz
  go_wp2_with fail
  refine (implUn s w1 (by unfold maxLen; omega) HZ.out (Ent.below HE.out hb1 hw) (by omega)).mono ?_
  rintro e w2 ⟨rfl, hb2⟩
  have hz2 := hb2.size
  have HB2 := hid (hb1.trans (hb2.mono hz1))
  have hz02 : w0.heap.size ≤ w2.heap.size := Nat.le_trans hz1 hz2
  have hUN : unVal s.data.toList = .agg #[.int .i64 (ucode s.data.toList), .string ⟨(utext s.data.toList).toArray⟩] := rfl
  have HUZ := hid (fun h => u_zero (l := s.data.toList) h)
  clear hb1 hb2 HZ
  rw [hUN] at HSU ⊢
  clear hUN
  generalize ucode s.data.toList = c at *
  generalize utext s.data.toList = o at *
  have HI8 : Hid (c = 0 → ∀ wy, Ent wy → 0 < wy.heap.size → Calls Tryd.prog 8 #[.string ⟨o.toArray⟩] wy fun e w' => e = .returned (.agg #[.int .i64 0, .string ⟨(escAll o).toArray⟩]) ∧ Below wy.heap.size wy w') := hid (fun h wy h1 h2 => escs (HUZ.out h).1 (HUZ.out h).2 wy h1 h2)
  have HI6 : Hid (c = 0 → ∀ wy, Ent wy → 0 < wy.heap.size → Calls Tryd.prog 6 #[.string ⟨(escAll o).toArray⟩] wy fun e w' => e = .returned (.agg #[.int .i64 0, .string ⟨o.toArray⟩]) ∧ Below wy.heap.size wy w') := hid (fun h wy h1 h2 => backs (HUZ.out h).1 (HUZ.out h).2 wy h1 h2)
  clear HUZ
  generalize (⟨(escAll o).toArray⟩ : ByteArray) = eB at *
  generalize (⟨o.toArray⟩ : ByteArray) = oB at *
  go_wp2_with fail
  have c0 : (w2.alloc (.cells #[.int .i64 c, .string oB] 26)).cell? ⟨w2.heap.size, 0, none⟩ = some (.int .i64 c) := by simp
  have c1 : (w2.alloc (.cells #[.int .i64 c, .string oB] 26)).cell? ⟨w2.heap.size, 1, none⟩ = some (.string oB) := by simp
  have HB3 : Hid (Below w0.heap.size w0 (w2.alloc (.cells #[.int .i64 c, .string oB] 26))) := HB2.out.alloc hz02 _
  have hz3 : w2.heap.size < (w2.alloc (.cells #[.int .i64 c, .string oB] 26)).heap.size := by simp
  generalize w2.alloc (.cells #[.int .i64 c, .string oB] 26) = w3 at *
  have hB3d : Below w0.heap.size w0 w3.drew := HB3.out.drew
  have d0 : w3.drew.cell? ⟨w2.heap.size, 0, none⟩ = some (.int .i64 c) := c0
  have d1 : w3.drew.cell? ⟨w2.heap.size, 1, none⟩ = some (.string oB) := c1
  have hzd : w2.heap.size < w3.drew.heap.size := hz3
  clear HB2
  go_cut [41] from 15 to 40 (fun r wx => r = .bool false ∧ Below w0.heap.size w0 wx)
  case first =>
    by_cases hcc : c = 0
    · subst hcc
      have f1 := fld1 0
      have h8 := hid (HI8.out rfl)
      have h6 := hid (HI6.out rfl)
      have e1 : (oB.toList != oB.toList) = false := by simp
      have e2 : (oB.toList == oB.toList) = true := by simp
      clear HI8 HI6 HSU
      refine wp_region_held_drew (S := fun wx => wx.cell? ⟨w2.heap.size, 0, none⟩ = some (.int .i64 0) ∧ wx.cell? ⟨w2.heap.size, 1, none⟩ = some (.string oB) ∧ Below w0.heap.size w0 wx ∧ w2.heap.size < wx.heap.size) (by kernel_rfl) ⟨d0, d1, hB3d, hzd⟩ (fun hHeld => ?_)
      refine wpAnyH_take (i := 0) (oi := { dst := some 15, op := Op.fieldAddr 26 (Operand.tmp 4) 0, type := 0, pos := "laws.go:68", after := #[], guard := none }) (v := .pointer (some ⟨w2.heap.size, 0, none⟩)) rfl (by kernel_rfl) (by kernel_rfl) (by kernel_rfl) (fun _ _ _ h => h) (Or.inl ⟨by rfl, by intro w hSw; (try dsimp only at hSw); go_simp⟩) (by assumption) ?_
      simp only [Act.put, List.setIfInBounds_toArray, List.set_cons_zero, List.set_cons_succ]
      refine wpAnyH_take (i := 1) (oi := { dst := some 16, op := Op.load 2 (Operand.tmp 15), type := 2, pos := "laws.go:68", after := #[{ on := 0, ground := Ground.data }], guard := none }) (v := .int .i64 0) rfl (by kernel_rfl) (by kernel_rfl) (by kernel_rfl) (fun _ _ _ h => h) (Or.inl ⟨by rfl, by intro w hSw; (try dsimp only at hSw); go_simp⟩) (by assumption) ?_
      simp only [Act.put, List.setIfInBounds_toArray, List.set_cons_zero, List.set_cons_succ]
      refine wpAnyH_take (i := 2) (oi := { dst := some 17, op := Op.binOp BinOp.neq 2 (Operand.tmp 16) (Operand.const (Value.int IntKind.i64 0)) 2, type := 4, pos := "laws.go:68", after := #[{ on := 1, ground := Ground.data }], guard := none }) (v := .bool false) rfl (by kernel_rfl) (by kernel_rfl) (by kernel_rfl) (fun _ _ _ h => h) (Or.inl ⟨by rfl, by intro w hSw; (try dsimp only at hSw); go_simp⟩) (by assumption) ?_
      simp only [Act.put, List.setIfInBounds_toArray, List.set_cons_zero, List.set_cons_succ]
      refine wpAnyH_take (i := 3) (oi := { dst := some 18, op := Op.move (Operand.tmp 17), type := 4, pos := "laws.go:68", after := #[{ on := 2, ground := Ground.data }], guard := none }) (v := .bool false) rfl (by kernel_rfl) (by kernel_rfl) (by kernel_rfl) (fun _ _ _ h => h) (Or.inl ⟨by rfl, by intro w hSw; (try dsimp only at hSw); go_simp⟩) (by assumption) ?_
      simp only [Act.put, List.setIfInBounds_toArray, List.set_cons_zero, List.set_cons_succ]
      refine wpAnyH_take (i := 4) (oi := { dst := some 19, op := Op.move (Operand.tmp 3), type := 9, pos := "laws.go:68", after := #[{ on := 3, ground := Ground.guard }], guard := some (3, true) }) (v := undef) rfl (by kernel_rfl) (by kernel_rfl) (by kernel_rfl) (fun _ _ _ h => h) (Or.inr ⟨by rfl, rfl⟩) (by assumption) ?_
      simp only [Act.put, List.setIfInBounds_toArray, List.set_cons_zero, List.set_cons_succ]
      refine wpAnyH_take (i := 5) (oi := { dst := some 20, op := Op.call { callee := Callee.value (Operand.func 7), args := #[Operand.tmp 19], argTypes := #[9] }, type := 26, pos := "laws.go:68", after := #[{ on := 4, ground := Ground.data }, { on := 3, ground := Ground.chain }, { on := 3, ground := Ground.guard }], guard := some (3, true) }) (v := undef) rfl (by kernel_rfl) (by kernel_rfl) (by kernel_rfl) (fun _ _ _ h => h) (Or.inr ⟨by rfl, rfl⟩) (by assumption) ?_
      simp only [Act.put, List.setIfInBounds_toArray, List.set_cons_zero, List.set_cons_succ]
      refine wpAnyH_take (i := 6) (oi := { dst := some 21, op := Op.field 26 (Operand.tmp 20) 0, type := 2, pos := "laws.go:68", after := #[{ on := 5, ground := Ground.data }, { on := 3, ground := Ground.guard }], guard := some (3, true) }) (v := undef) rfl (by kernel_rfl) (by kernel_rfl) (by kernel_rfl) (fun _ _ _ h => h) (Or.inr ⟨by rfl, rfl⟩) (by assumption) ?_
      simp only [Act.put, List.setIfInBounds_toArray, List.set_cons_zero, List.set_cons_succ]
      refine wpAnyH_take (i := 7) (oi := { dst := some 22, op := Op.fieldAddr 26 (Operand.tmp 4) 0, type := 0, pos := "laws.go:68", after := #[{ on := 3, ground := Ground.guard }], guard := some (3, true) }) (v := undef) rfl (by kernel_rfl) (by kernel_rfl) (by kernel_rfl) (fun _ _ _ h => h) (Or.inr ⟨by rfl, rfl⟩) (by assumption) ?_
      simp only [Act.put, List.setIfInBounds_toArray, List.set_cons_zero, List.set_cons_succ]
      refine wpAnyH_take (i := 8) (oi := { dst := some 23, op := Op.load 2 (Operand.tmp 22), type := 2, pos := "laws.go:68", after := #[{ on := 7, ground := Ground.data }, { on := 3, ground := Ground.guard }], guard := some (3, true) }) (v := undef) rfl (by kernel_rfl) (by kernel_rfl) (by kernel_rfl) (fun _ _ _ h => h) (Or.inr ⟨by rfl, rfl⟩) (by assumption) ?_
      simp only [Act.put, List.setIfInBounds_toArray, List.set_cons_zero, List.set_cons_succ]
      refine wpAnyH_take (i := 9) (oi := { dst := some 24, op := Op.binOp BinOp.neq 2 (Operand.tmp 21) (Operand.tmp 23) 2, type := 4, pos := "laws.go:68", after := #[{ on := 6, ground := Ground.data }, { on := 8, ground := Ground.data }, { on := 3, ground := Ground.guard }], guard := some (3, true) }) (v := undef) rfl (by kernel_rfl) (by kernel_rfl) (by kernel_rfl) (fun _ _ _ h => h) (Or.inr ⟨by rfl, rfl⟩) (by assumption) ?_
      simp only [Act.put, List.setIfInBounds_toArray, List.set_cons_zero, List.set_cons_succ]
      refine wpAnyH_take (i := 10) (oi := { dst := some 25, op := Op.pick (Operand.tmp 18) (Operand.tmp 24) (Operand.const (Value.bool false)), type := 4, pos := "laws.go:68", after := #[{ on := 3, ground := Ground.data }, { on := 9, ground := Ground.data }], guard := none }) (v := .bool false) rfl (by kernel_rfl) (by kernel_rfl) (by kernel_rfl) (fun _ _ _ h => h) (Or.inl ⟨by rfl, by intro w hSw; (try dsimp only at hSw); go_simp⟩) (by assumption) ?_
      simp only [Act.put, List.setIfInBounds_toArray, List.set_cons_zero, List.set_cons_succ]
      refine wpAnyH_take (i := 11) (oi := { dst := some 26, op := Op.move (Operand.tmp 25), type := 4, pos := "laws.go:68", after := #[{ on := 10, ground := Ground.data }, { on := 5, ground := Ground.chain }], guard := none }) (v := .bool false) rfl (by kernel_rfl) (by kernel_rfl) (by kernel_rfl) (fun _ _ _ h => h) (Or.inl ⟨by rfl, by intro w hSw; (try dsimp only at hSw); go_simp⟩) (by assumption) ?_
      simp only [Act.put, List.setIfInBounds_toArray, List.set_cons_zero, List.set_cons_succ]
      refine wpAnyH_take (i := 12) (oi := { dst := some 27, op := Op.fieldAddr 26 (Operand.tmp 4) 0, type := 0, pos := "laws.go:68", after := #[{ on := 11, ground := Ground.guard }], guard := some (11, false) }) (v := .pointer (some ⟨w2.heap.size, 0, none⟩)) rfl (by kernel_rfl) (by kernel_rfl) (by kernel_rfl) (fun _ _ _ h => h) (Or.inl ⟨by rfl, by intro w hSw; (try dsimp only at hSw); go_simp⟩) (by assumption) ?_
      simp only [Act.put, List.setIfInBounds_toArray, List.set_cons_zero, List.set_cons_succ]
      refine wpAnyH_take (i := 13) (oi := { dst := some 28, op := Op.load 2 (Operand.tmp 27), type := 2, pos := "laws.go:68", after := #[{ on := 12, ground := Ground.data }, { on := 11, ground := Ground.guard }], guard := some (11, false) }) (v := .int .i64 0) rfl (by kernel_rfl) (by kernel_rfl) (by kernel_rfl) (fun _ _ _ h => h) (Or.inl ⟨by rfl, by intro w hSw; (try dsimp only at hSw); go_simp⟩) (by assumption) ?_
      simp only [Act.put, List.setIfInBounds_toArray, List.set_cons_zero, List.set_cons_succ]
      refine wpAnyH_take (i := 14) (oi := { dst := some 29, op := Op.binOp BinOp.eql 2 (Operand.tmp 28) (Operand.const (Value.int IntKind.i64 0)) 2, type := 4, pos := "laws.go:68", after := #[{ on := 13, ground := Ground.data }, { on := 11, ground := Ground.guard }], guard := some (11, false) }) (v := .bool true) rfl (by kernel_rfl) (by kernel_rfl) (by kernel_rfl) (fun _ _ _ h => h) (Or.inl ⟨by rfl, by intro w hSw; (try dsimp only at hSw); go_simp⟩) (by assumption) ?_
      simp only [Act.put, List.setIfInBounds_toArray, List.set_cons_zero, List.set_cons_succ]
      refine wpAnyH_take (i := 15) (oi := { dst := some 30, op := Op.move (Operand.tmp 29), type := 4, pos := "laws.go:68", after := #[{ on := 14, ground := Ground.data }, { on := 11, ground := Ground.chain }, { on := 11, ground := Ground.guard }], guard := some (11, false) }) (v := .bool true) rfl (by kernel_rfl) (by kernel_rfl) (by kernel_rfl) (fun _ _ _ h => h) (Or.inl ⟨by rfl, by intro w hSw; (try dsimp only at hSw); go_simp⟩) (by assumption) ?_
      simp only [Act.put, List.setIfInBounds_toArray, List.set_cons_zero, List.set_cons_succ]
      refine wpAnyH_take (i := 16) (oi := { dst := some 31, op := Op.fieldAddr 26 (Operand.tmp 4) 1, type := 0, pos := "laws.go:68", after := #[{ on := 15, ground := Ground.guard }], guard := some (15, true) }) (v := .pointer (some ⟨w2.heap.size, 1, none⟩)) rfl (by kernel_rfl) (by kernel_rfl) (by kernel_rfl) (fun _ _ _ h => h) (Or.inl ⟨by rfl, by intro w hSw; (try dsimp only at hSw); go_simp⟩) (by assumption) ?_
      simp only [Act.put, List.setIfInBounds_toArray, List.set_cons_zero, List.set_cons_succ]
      refine wpAnyH_take (i := 17) (oi := { dst := some 32, op := Op.load 9 (Operand.tmp 31), type := 9, pos := "laws.go:68", after := #[{ on := 16, ground := Ground.data }, { on := 15, ground := Ground.guard }], guard := some (15, true) }) (v := .string oB) rfl (by kernel_rfl) (by kernel_rfl) (by kernel_rfl) (fun _ _ _ h => h) (Or.inl ⟨by rfl, by intro w hSw; (try dsimp only at hSw); go_simp⟩) (by assumption) ?_
      simp only [Act.put, List.setIfInBounds_toArray, List.set_cons_zero, List.set_cons_succ]
      refine wpAnyH_take (i := 22) (oi := { dst := some 37, op := Op.fieldAddr 26 (Operand.tmp 4) 1, type := 0, pos := "laws.go:68", after := #[{ on := 15, ground := Ground.guard }], guard := some (15, true) }) (v := .pointer (some ⟨w2.heap.size, 1, none⟩)) rfl (by kernel_rfl) (by kernel_rfl) (by kernel_rfl) (fun _ _ _ h => h) (Or.inl ⟨by rfl, by intro w hSw; (try dsimp only at hSw); go_simp⟩) (by assumption) ?_
      simp only [Act.put, List.setIfInBounds_toArray, List.set_cons_zero, List.set_cons_succ]
      refine wpAnyH_take (i := 23) (oi := { dst := some 38, op := Op.load 9 (Operand.tmp 37), type := 9, pos := "laws.go:68", after := #[{ on := 22, ground := Ground.data }, { on := 15, ground := Ground.guard }], guard := some (15, true) }) (v := .string oB) rfl (by kernel_rfl) (by kernel_rfl) (by kernel_rfl) (fun _ _ _ h => h) (Or.inl ⟨by rfl, by intro w hSw; (try dsimp only at hSw); go_simp⟩) (by assumption) ?_
      simp only [Act.put, List.setIfInBounds_toArray, List.set_cons_zero, List.set_cons_succ]
      refine wpAnyH_ready (rs := [18]) (by kernel_rfl) (by simp) ?_
      refine AllReadyH.cons (o := { dst := some 33, op := Op.call { callee := Callee.value (Operand.func 8), args := #[Operand.tmp 32], argTypes := #[9] }, type := 26, pos := "laws.go:68", after := #[{ on := 17, ground := Ground.data }, { on := 15, ground := Ground.chain }, { on := 15, ground := Ground.guard }], guard := some (15, true) }) rfl (fun K hK => ?_) AllReadyH.nil
      go_simp
      go_at_call 8
      refine (h8.out _ (Ent.below HE.out hB3d hw) (by omega)).mono ?_
      rintro e w4 ⟨rfl, hb4⟩
      have hB4 : Below w0.heap.size w0 w4 := hB3d.trans (hb4.mono hB3d.size)
      have g0 : w4.cell? ⟨w2.heap.size, 0, none⟩ = some (.int .i64 0) := (hb4.cell (p := ⟨w2.heap.size, 0, none⟩) hzd).trans d0
      have g1 : w4.cell? ⟨w2.heap.size, 1, none⟩ = some (.string oB) := (hb4.cell (p := ⟨w2.heap.size, 1, none⟩) hzd).trans d1
      have hz4 : w2.heap.size < w4.heap.size := Nat.lt_of_lt_of_le hzd hb4.size
      clear hb4
      go_wp2_with fail
      refine hK.out _ _ ⟨g0, g1, hB4, hz4⟩ (fun hHeld => ?_)
      clear hK K
      try simp only [Act.put, List.setIfInBounds_toArray, List.set_cons_zero, List.set_cons_succ]
      refine wpAnyH_take (i := 19) (oi := { dst := some 34, op := Op.field 26 (Operand.tmp 33) 1, type := 9, pos := "laws.go:68", after := #[{ on := 18, ground := Ground.data }, { on := 15, ground := Ground.guard }], guard := some (15, true) }) (v := .string eB) rfl (by kernel_rfl) (by kernel_rfl) (by kernel_rfl) (fun _ _ _ h => h) (Or.inl ⟨by rfl, by intro w hSw; (try dsimp only at hSw); go_simp⟩) (by assumption) ?_
      simp only [Act.put, List.setIfInBounds_toArray, List.set_cons_zero, List.set_cons_succ]
      refine wpAnyH_ready (rs := [20]) (by kernel_rfl) (by simp) ?_
      refine AllReadyH.cons (o := { dst := some 35, op := Op.call { callee := Callee.value (Operand.func 6), args := #[Operand.tmp 34], argTypes := #[9] }, type := 26, pos := "laws.go:68", after := #[{ on := 19, ground := Ground.data }, { on := 18, ground := Ground.chain }, { on := 15, ground := Ground.guard }], guard := some (15, true) }) rfl (fun K hK => ?_) AllReadyH.nil
      go_simp
      go_at_call 6
      refine (h6.out _ (Ent.below HE.out hB4 hw) (by omega)).mono ?_
      rintro e wx ⟨rfl, hb5⟩
      have hBx : Below w0.heap.size w0 wx := hB4.trans (hb5.mono hB4.size)
      have k0 : wx.cell? ⟨w2.heap.size, 0, none⟩ = some (.int .i64 0) := (hb5.cell (p := ⟨w2.heap.size, 0, none⟩) hz4).trans g0
      have k1 : wx.cell? ⟨w2.heap.size, 1, none⟩ = some (.string oB) := (hb5.cell (p := ⟨w2.heap.size, 1, none⟩) hz4).trans g1
      have hz5 : w2.heap.size < wx.heap.size := Nat.lt_of_lt_of_le hz4 hb5.size
      clear hb5
      go_wp2_with fail
      refine hK.out _ _ ⟨k0, k1, hBx, hz5⟩ (fun hHeld => ?_)
      clear hK K
      try simp only [Act.put, List.setIfInBounds_toArray, List.set_cons_zero, List.set_cons_succ]
      refine wpAnyH_take (i := 21) (oi := { dst := some 36, op := Op.field 26 (Operand.tmp 35) 1, type := 9, pos := "laws.go:68", after := #[{ on := 20, ground := Ground.data }, { on := 15, ground := Ground.guard }], guard := some (15, true) }) (v := .string oB) rfl (by kernel_rfl) (by kernel_rfl) (by kernel_rfl) (fun _ _ _ h => h) (Or.inl ⟨by rfl, by intro w hSw; (try dsimp only at hSw); go_simp⟩) (by assumption) ?_
      simp only [Act.put, List.setIfInBounds_toArray, List.set_cons_zero, List.set_cons_succ]
      refine wpAnyH_take (i := 24) (oi := { dst := some 39, op := Op.binOp BinOp.neq 9 (Operand.tmp 36) (Operand.tmp 38) 9, type := 4, pos := "laws.go:68", after := #[{ on := 21, ground := Ground.data }, { on := 23, ground := Ground.data }, { on := 15, ground := Ground.guard }], guard := some (15, true) }) (v := .bool false) rfl (by kernel_rfl) (by kernel_rfl) (by kernel_rfl) (fun _ _ _ h => h) (Or.inl ⟨by rfl, by intro w hSw; (try dsimp only at hSw); go_simp⟩) (by assumption) ?_
      simp only [Act.put, List.setIfInBounds_toArray, List.set_cons_zero, List.set_cons_succ]
      refine wpAnyH_take (i := 25) (oi := { dst := some 40, op := Op.pick (Operand.tmp 30) (Operand.tmp 39) (Operand.const (Value.bool false)), type := 4, pos := "laws.go:68", after := #[{ on := 15, ground := Ground.data }, { on := 24, ground := Ground.data }, { on := 11, ground := Ground.guard }], guard := some (11, false) }) (v := .bool false) rfl (by kernel_rfl) (by kernel_rfl) (by kernel_rfl) (fun _ _ _ h => h) (Or.inl ⟨by rfl, by intro w hSw; (try dsimp only at hSw); go_simp⟩) (by assumption) ?_
      simp only [Act.put, List.setIfInBounds_toArray, List.set_cons_zero, List.set_cons_succ]
      refine wpAnyH_take (i := 26) (oi := { dst := some 41, op := Op.pick (Operand.tmp 26) (Operand.const (Value.bool true)) (Operand.tmp 40), type := 4, pos := "laws.go:68", after := #[{ on := 11, ground := Ground.data }, { on := 25, ground := Ground.data }], guard := none }) (v := .bool false) rfl (by kernel_rfl) (by kernel_rfl) (by kernel_rfl) (fun _ _ _ h => h) (Or.inl ⟨by rfl, by intro w hSw; (try dsimp only at hSw); go_simp⟩) (by assumption) ?_
      simp only [Act.put, List.setIfInBounds_toArray, List.set_cons_zero, List.set_cons_succ]
      refine wpAnyH_done (by kernel_rfl) ?_ _
      go_wp2_with fail
      go_meet
      exact ⟨rfl, hBx⟩
    · have f0 := fld0 c
      have e0 : (c != 0) = true := by simpa using hcc
      have e1 : (c != c) = false := by simp
      have e2 : (c == 0) = false := by simpa using hcc
      clear HI8 HI6
      refine wp_region_held_drew (S := fun wx => wx.cell? ⟨w2.heap.size, 0, none⟩ = some (.int .i64 c) ∧ Below w0.heap.size w0 wx ∧ w2.heap.size < wx.heap.size) (by kernel_rfl) ⟨d0, hB3d, hzd⟩ (fun hHeld => ?_)
      refine wpAnyH_take (i := 0) (oi := { dst := some 15, op := Op.fieldAddr 26 (Operand.tmp 4) 0, type := 0, pos := "laws.go:68", after := #[], guard := none }) (v := .pointer (some ⟨w2.heap.size, 0, none⟩)) rfl (by kernel_rfl) (by kernel_rfl) (by kernel_rfl) (fun _ _ _ h => h) (Or.inl ⟨by rfl, by intro w hSw; (try dsimp only at hSw); go_simp⟩) (by assumption) ?_
      simp only [Act.put, List.setIfInBounds_toArray, List.set_cons_zero, List.set_cons_succ]
      refine wpAnyH_take (i := 1) (oi := { dst := some 16, op := Op.load 2 (Operand.tmp 15), type := 2, pos := "laws.go:68", after := #[{ on := 0, ground := Ground.data }], guard := none }) (v := .int .i64 c) rfl (by kernel_rfl) (by kernel_rfl) (by kernel_rfl) (fun _ _ _ h => h) (Or.inl ⟨by rfl, by intro w hSw; (try dsimp only at hSw); go_simp⟩) (by assumption) ?_
      simp only [Act.put, List.setIfInBounds_toArray, List.set_cons_zero, List.set_cons_succ]
      refine wpAnyH_take (i := 2) (oi := { dst := some 17, op := Op.binOp BinOp.neq 2 (Operand.tmp 16) (Operand.const (Value.int IntKind.i64 0)) 2, type := 4, pos := "laws.go:68", after := #[{ on := 1, ground := Ground.data }], guard := none }) (v := .bool true) rfl (by kernel_rfl) (by kernel_rfl) (by kernel_rfl) (fun _ _ _ h => h) (Or.inl ⟨by rfl, by intro w hSw; (try dsimp only at hSw); go_simp⟩) (by assumption) ?_
      simp only [Act.put, List.setIfInBounds_toArray, List.set_cons_zero, List.set_cons_succ]
      refine wpAnyH_take (i := 3) (oi := { dst := some 18, op := Op.move (Operand.tmp 17), type := 4, pos := "laws.go:68", after := #[{ on := 2, ground := Ground.data }], guard := none }) (v := .bool true) rfl (by kernel_rfl) (by kernel_rfl) (by kernel_rfl) (fun _ _ _ h => h) (Or.inl ⟨by rfl, by intro w hSw; (try dsimp only at hSw); go_simp⟩) (by assumption) ?_
      simp only [Act.put, List.setIfInBounds_toArray, List.set_cons_zero, List.set_cons_succ]
      refine wpAnyH_take (i := 4) (oi := { dst := some 19, op := Op.move (Operand.tmp 3), type := 9, pos := "laws.go:68", after := #[{ on := 3, ground := Ground.guard }], guard := some (3, true) }) (v := .string s) rfl (by kernel_rfl) (by kernel_rfl) (by kernel_rfl) (fun _ _ _ h => h) (Or.inl ⟨by rfl, by intro w hSw; (try dsimp only at hSw); go_simp⟩) (by assumption) ?_
      simp only [Act.put, List.setIfInBounds_toArray, List.set_cons_zero, List.set_cons_succ]
      refine wpAnyH_take (i := 7) (oi := { dst := some 22, op := Op.fieldAddr 26 (Operand.tmp 4) 0, type := 0, pos := "laws.go:68", after := #[{ on := 3, ground := Ground.guard }], guard := some (3, true) }) (v := .pointer (some ⟨w2.heap.size, 0, none⟩)) rfl (by kernel_rfl) (by kernel_rfl) (by kernel_rfl) (fun _ _ _ h => h) (Or.inl ⟨by rfl, by intro w hSw; (try dsimp only at hSw); go_simp⟩) (by assumption) ?_
      simp only [Act.put, List.setIfInBounds_toArray, List.set_cons_zero, List.set_cons_succ]
      refine wpAnyH_take (i := 8) (oi := { dst := some 23, op := Op.load 2 (Operand.tmp 22), type := 2, pos := "laws.go:68", after := #[{ on := 7, ground := Ground.data }, { on := 3, ground := Ground.guard }], guard := some (3, true) }) (v := .int .i64 c) rfl (by kernel_rfl) (by kernel_rfl) (by kernel_rfl) (fun _ _ _ h => h) (Or.inl ⟨by rfl, by intro w hSw; (try dsimp only at hSw); go_simp⟩) (by assumption) ?_
      simp only [Act.put, List.setIfInBounds_toArray, List.set_cons_zero, List.set_cons_succ]
      refine wpAnyH_ready (rs := [5]) (by kernel_rfl) (by simp) ?_
      refine AllReadyH.cons (o := { dst := some 20, op := Op.call { callee := Callee.value (Operand.func 7), args := #[Operand.tmp 19], argTypes := #[9] }, type := 26, pos := "laws.go:68", after := #[{ on := 4, ground := Ground.data }, { on := 3, ground := Ground.chain }, { on := 3, ground := Ground.guard }], guard := some (3, true) }) rfl (fun K hK => ?_) AllReadyH.nil
      go_simp
      go_at_call 7
      refine (HSU.out _).mono ?_
      rintro e wx ⟨rfl, hb4⟩
      have hBx : Below w0.heap.size w0 wx := hB3d.trans (hb4.mono hB3d.size)
      have g0 : wx.cell? ⟨w2.heap.size, 0, none⟩ = some (.int .i64 c) := (hb4.cell (p := ⟨w2.heap.size, 0, none⟩) hzd).trans d0
      have hz4 : w2.heap.size < wx.heap.size := Nat.lt_of_lt_of_le hzd hb4.size
      clear hb4
      go_wp2_with fail
      refine hK.out _ _ ⟨g0, hBx, hz4⟩ (fun hHeld => ?_)
      clear hK K
      try simp only [Act.put, List.setIfInBounds_toArray, List.set_cons_zero, List.set_cons_succ]
      refine wpAnyH_take (i := 6) (oi := { dst := some 21, op := Op.field 26 (Operand.tmp 20) 0, type := 2, pos := "laws.go:68", after := #[{ on := 5, ground := Ground.data }, { on := 3, ground := Ground.guard }], guard := some (3, true) }) (v := .int .i64 c) rfl (by kernel_rfl) (by kernel_rfl) (by kernel_rfl) (fun _ _ _ h => h) (Or.inl ⟨by rfl, by intro w hSw; (try dsimp only at hSw); go_simp⟩) (by assumption) ?_
      simp only [Act.put, List.setIfInBounds_toArray, List.set_cons_zero, List.set_cons_succ]
      refine wpAnyH_take (i := 9) (oi := { dst := some 24, op := Op.binOp BinOp.neq 2 (Operand.tmp 21) (Operand.tmp 23) 2, type := 4, pos := "laws.go:68", after := #[{ on := 6, ground := Ground.data }, { on := 8, ground := Ground.data }, { on := 3, ground := Ground.guard }], guard := some (3, true) }) (v := .bool false) rfl (by kernel_rfl) (by kernel_rfl) (by kernel_rfl) (fun _ _ _ h => h) (Or.inl ⟨by rfl, by intro w hSw; (try dsimp only at hSw); go_simp⟩) (by assumption) ?_
      simp only [Act.put, List.setIfInBounds_toArray, List.set_cons_zero, List.set_cons_succ]
      refine wpAnyH_take (i := 10) (oi := { dst := some 25, op := Op.pick (Operand.tmp 18) (Operand.tmp 24) (Operand.const (Value.bool false)), type := 4, pos := "laws.go:68", after := #[{ on := 3, ground := Ground.data }, { on := 9, ground := Ground.data }], guard := none }) (v := .bool false) rfl (by kernel_rfl) (by kernel_rfl) (by kernel_rfl) (fun _ _ _ h => h) (Or.inl ⟨by rfl, by intro w hSw; (try dsimp only at hSw); go_simp⟩) (by assumption) ?_
      simp only [Act.put, List.setIfInBounds_toArray, List.set_cons_zero, List.set_cons_succ]
      refine wpAnyH_take (i := 11) (oi := { dst := some 26, op := Op.move (Operand.tmp 25), type := 4, pos := "laws.go:68", after := #[{ on := 10, ground := Ground.data }, { on := 5, ground := Ground.chain }], guard := none }) (v := .bool false) rfl (by kernel_rfl) (by kernel_rfl) (by kernel_rfl) (fun _ _ _ h => h) (Or.inl ⟨by rfl, by intro w hSw; (try dsimp only at hSw); go_simp⟩) (by assumption) ?_
      simp only [Act.put, List.setIfInBounds_toArray, List.set_cons_zero, List.set_cons_succ]
      refine wpAnyH_take (i := 12) (oi := { dst := some 27, op := Op.fieldAddr 26 (Operand.tmp 4) 0, type := 0, pos := "laws.go:68", after := #[{ on := 11, ground := Ground.guard }], guard := some (11, false) }) (v := .pointer (some ⟨w2.heap.size, 0, none⟩)) rfl (by kernel_rfl) (by kernel_rfl) (by kernel_rfl) (fun _ _ _ h => h) (Or.inl ⟨by rfl, by intro w hSw; (try dsimp only at hSw); go_simp⟩) (by assumption) ?_
      simp only [Act.put, List.setIfInBounds_toArray, List.set_cons_zero, List.set_cons_succ]
      refine wpAnyH_take (i := 13) (oi := { dst := some 28, op := Op.load 2 (Operand.tmp 27), type := 2, pos := "laws.go:68", after := #[{ on := 12, ground := Ground.data }, { on := 11, ground := Ground.guard }], guard := some (11, false) }) (v := .int .i64 c) rfl (by kernel_rfl) (by kernel_rfl) (by kernel_rfl) (fun _ _ _ h => h) (Or.inl ⟨by rfl, by intro w hSw; (try dsimp only at hSw); go_simp⟩) (by assumption) ?_
      simp only [Act.put, List.setIfInBounds_toArray, List.set_cons_zero, List.set_cons_succ]
      refine wpAnyH_take (i := 14) (oi := { dst := some 29, op := Op.binOp BinOp.eql 2 (Operand.tmp 28) (Operand.const (Value.int IntKind.i64 0)) 2, type := 4, pos := "laws.go:68", after := #[{ on := 13, ground := Ground.data }, { on := 11, ground := Ground.guard }], guard := some (11, false) }) (v := .bool false) rfl (by kernel_rfl) (by kernel_rfl) (by kernel_rfl) (fun _ _ _ h => h) (Or.inl ⟨by rfl, by intro w hSw; (try dsimp only at hSw); go_simp⟩) (by assumption) ?_
      simp only [Act.put, List.setIfInBounds_toArray, List.set_cons_zero, List.set_cons_succ]
      refine wpAnyH_take (i := 15) (oi := { dst := some 30, op := Op.move (Operand.tmp 29), type := 4, pos := "laws.go:68", after := #[{ on := 14, ground := Ground.data }, { on := 11, ground := Ground.chain }, { on := 11, ground := Ground.guard }], guard := some (11, false) }) (v := .bool false) rfl (by kernel_rfl) (by kernel_rfl) (by kernel_rfl) (fun _ _ _ h => h) (Or.inl ⟨by rfl, by intro w hSw; (try dsimp only at hSw); go_simp⟩) (by assumption) ?_
      simp only [Act.put, List.setIfInBounds_toArray, List.set_cons_zero, List.set_cons_succ]
      refine wpAnyH_take (i := 16) (oi := { dst := some 31, op := Op.fieldAddr 26 (Operand.tmp 4) 1, type := 0, pos := "laws.go:68", after := #[{ on := 15, ground := Ground.guard }], guard := some (15, true) }) (v := undef) rfl (by kernel_rfl) (by kernel_rfl) (by kernel_rfl) (fun _ _ _ h => h) (Or.inr ⟨by rfl, rfl⟩) (by assumption) ?_
      simp only [Act.put, List.setIfInBounds_toArray, List.set_cons_zero, List.set_cons_succ]
      refine wpAnyH_take (i := 17) (oi := { dst := some 32, op := Op.load 9 (Operand.tmp 31), type := 9, pos := "laws.go:68", after := #[{ on := 16, ground := Ground.data }, { on := 15, ground := Ground.guard }], guard := some (15, true) }) (v := undef) rfl (by kernel_rfl) (by kernel_rfl) (by kernel_rfl) (fun _ _ _ h => h) (Or.inr ⟨by rfl, rfl⟩) (by assumption) ?_
      simp only [Act.put, List.setIfInBounds_toArray, List.set_cons_zero, List.set_cons_succ]
      refine wpAnyH_take (i := 18) (oi := { dst := some 33, op := Op.call { callee := Callee.value (Operand.func 8), args := #[Operand.tmp 32], argTypes := #[9] }, type := 26, pos := "laws.go:68", after := #[{ on := 17, ground := Ground.data }, { on := 15, ground := Ground.chain }, { on := 15, ground := Ground.guard }], guard := some (15, true) }) (v := undef) rfl (by kernel_rfl) (by kernel_rfl) (by kernel_rfl) (fun _ _ _ h => h) (Or.inr ⟨by rfl, rfl⟩) (by assumption) ?_
      simp only [Act.put, List.setIfInBounds_toArray, List.set_cons_zero, List.set_cons_succ]
      refine wpAnyH_take (i := 19) (oi := { dst := some 34, op := Op.field 26 (Operand.tmp 33) 1, type := 9, pos := "laws.go:68", after := #[{ on := 18, ground := Ground.data }, { on := 15, ground := Ground.guard }], guard := some (15, true) }) (v := undef) rfl (by kernel_rfl) (by kernel_rfl) (by kernel_rfl) (fun _ _ _ h => h) (Or.inr ⟨by rfl, rfl⟩) (by assumption) ?_
      simp only [Act.put, List.setIfInBounds_toArray, List.set_cons_zero, List.set_cons_succ]
      refine wpAnyH_take (i := 20) (oi := { dst := some 35, op := Op.call { callee := Callee.value (Operand.func 6), args := #[Operand.tmp 34], argTypes := #[9] }, type := 26, pos := "laws.go:68", after := #[{ on := 19, ground := Ground.data }, { on := 18, ground := Ground.chain }, { on := 15, ground := Ground.guard }], guard := some (15, true) }) (v := undef) rfl (by kernel_rfl) (by kernel_rfl) (by kernel_rfl) (fun _ _ _ h => h) (Or.inr ⟨by rfl, rfl⟩) (by assumption) ?_
      simp only [Act.put, List.setIfInBounds_toArray, List.set_cons_zero, List.set_cons_succ]
      refine wpAnyH_take (i := 21) (oi := { dst := some 36, op := Op.field 26 (Operand.tmp 35) 1, type := 9, pos := "laws.go:68", after := #[{ on := 20, ground := Ground.data }, { on := 15, ground := Ground.guard }], guard := some (15, true) }) (v := undef) rfl (by kernel_rfl) (by kernel_rfl) (by kernel_rfl) (fun _ _ _ h => h) (Or.inr ⟨by rfl, rfl⟩) (by assumption) ?_
      simp only [Act.put, List.setIfInBounds_toArray, List.set_cons_zero, List.set_cons_succ]
      refine wpAnyH_take (i := 22) (oi := { dst := some 37, op := Op.fieldAddr 26 (Operand.tmp 4) 1, type := 0, pos := "laws.go:68", after := #[{ on := 15, ground := Ground.guard }], guard := some (15, true) }) (v := undef) rfl (by kernel_rfl) (by kernel_rfl) (by kernel_rfl) (fun _ _ _ h => h) (Or.inr ⟨by rfl, rfl⟩) (by assumption) ?_
      simp only [Act.put, List.setIfInBounds_toArray, List.set_cons_zero, List.set_cons_succ]
      refine wpAnyH_take (i := 23) (oi := { dst := some 38, op := Op.load 9 (Operand.tmp 37), type := 9, pos := "laws.go:68", after := #[{ on := 22, ground := Ground.data }, { on := 15, ground := Ground.guard }], guard := some (15, true) }) (v := undef) rfl (by kernel_rfl) (by kernel_rfl) (by kernel_rfl) (fun _ _ _ h => h) (Or.inr ⟨by rfl, rfl⟩) (by assumption) ?_
      simp only [Act.put, List.setIfInBounds_toArray, List.set_cons_zero, List.set_cons_succ]
      refine wpAnyH_take (i := 24) (oi := { dst := some 39, op := Op.binOp BinOp.neq 9 (Operand.tmp 36) (Operand.tmp 38) 9, type := 4, pos := "laws.go:68", after := #[{ on := 21, ground := Ground.data }, { on := 23, ground := Ground.data }, { on := 15, ground := Ground.guard }], guard := some (15, true) }) (v := undef) rfl (by kernel_rfl) (by kernel_rfl) (by kernel_rfl) (fun _ _ _ h => h) (Or.inr ⟨by rfl, rfl⟩) (by assumption) ?_
      simp only [Act.put, List.setIfInBounds_toArray, List.set_cons_zero, List.set_cons_succ]
      refine wpAnyH_take (i := 25) (oi := { dst := some 40, op := Op.pick (Operand.tmp 30) (Operand.tmp 39) (Operand.const (Value.bool false)), type := 4, pos := "laws.go:68", after := #[{ on := 15, ground := Ground.data }, { on := 24, ground := Ground.data }, { on := 11, ground := Ground.guard }], guard := some (11, false) }) (v := .bool false) rfl (by kernel_rfl) (by kernel_rfl) (by kernel_rfl) (fun _ _ _ h => h) (Or.inl ⟨by rfl, by intro w hSw; (try dsimp only at hSw); go_simp⟩) (by assumption) ?_
      simp only [Act.put, List.setIfInBounds_toArray, List.set_cons_zero, List.set_cons_succ]
      refine wpAnyH_take (i := 26) (oi := { dst := some 41, op := Op.pick (Operand.tmp 26) (Operand.const (Value.bool true)) (Operand.tmp 40), type := 4, pos := "laws.go:68", after := #[{ on := 11, ground := Ground.data }, { on := 25, ground := Ground.data }], guard := none }) (v := .bool false) rfl (by kernel_rfl) (by kernel_rfl) (by kernel_rfl) (fun _ _ _ h => h) (Or.inl ⟨by rfl, by intro w hSw; (try dsimp only at hSw); go_simp⟩) (by assumption) ?_
      simp only [Act.put, List.setIfInBounds_toArray, List.set_cons_zero, List.set_cons_succ]
      refine wpAnyH_done (by kernel_rfl) ?_ _
      go_wp2_with fail
      go_meet
      exact ⟨rfl, hBx⟩
  case rest =>
    obtain ⟨rfl, hBx⟩ := hcut
    have HBx := hid hBx
    clear hBx hB3d c0 c1 d0 d1 hz3 hzd HSU HI8 HI6 HB3
    go_wp2_with fail
    refine (Drw.drawEsc len cap a _ (code_later HC.out HBx.out) (by omega)).mono ?_
    rintro e y1 ⟨t, ht, rfl, hby1⟩
    have hsx := HBx.out.size
    have hs1 := hby1.size
    have HY1 := hid (HBx.out.trans (hby1.mono hsx))
    clear hby1
    go_wp2_with fail
    refine (implEsc t y1 (by unfold maxLen; omega) (Ent.below HE.out HY1.out hw) (by omega)).mono ?_
    rintro e y2 ⟨rfl, hby2⟩
    have hs2 := hby2.size
    have HY2 := hid (HY1.out.trans (hby2.mono (by omega)))
    clear hby2
    have HSE : Hid (∀ w, Calls Tryd.prog 10 #[.string t] w fun e w' => e = .returned (escVal t.data.toList) ∧ Below w.heap.size w w') := hid (fun w => specEsc t w (by unfold maxLen; omega))
    have hs02 : w0.heap.size ≤ y2.heap.size := by omega
    by_cases hv : vcode t.data.toList = 0
    · obtain ⟨hp, h40⟩ := plain_of hv
      have hVB := escVal_ok hv
      have HI6 : Hid (∀ wy, Ent wy → 0 < wy.heap.size → Calls Tryd.prog 6 #[.string ⟨(escAll t.data.toList).toArray⟩] wy fun e w' => e = .returned (.agg #[.int .i64 0, .string t]) ∧ Below wy.heap.size wy w') := hid (fun wy h1 h2 => by
        have h := backs hp h40 wy h1 h2
        rw [ba_eq] at h
        exact h)
      have HS := hid (fun k h => sign_at (l := t.data.toList) (s := _) rfl k h)
      have hle : (⟨(escAll t.data.toList).toArray⟩ : ByteArray).size ≤ 400 := by rw [mk_size]; have := escAll_len t.data.toList; omega
      rw [hVB] at HSE ⊢
      clear hVB hv hp h40
      generalize (⟨(escAll t.data.toList).toArray⟩ : ByteArray) = x at *
      go_wp2_with fail
      have HY3 := hid (HY2.out.alloc hs02 (.cells #[.int .i64 0, .string x] 26))
      refine (HI6.out _ (Ent.below HE.out HY3.out hw) (by simp)).mono ?_
      rintro e y3 ⟨rfl, hb3⟩
      have hs3 : y2.heap.size < y3.heap.size := by have := hb3.size; simp at this; omega
      have HY4 := hid (HY3.out.trans (hb3.mono (by simp; omega)))
      have r1 : y3.cell? ⟨y2.heap.size, 1, none⟩ = some (.string x) := by rw [hb3.cell (p := ⟨y2.heap.size, 1, none⟩) (by simp)]; simp
      clear hb3 HY3
      go_wp2_with fail
      have HY5 := hid (HY4.out.alloc (by omega) (.cells #[.int .i64 0, .string t] 26))
      have m0 : (y3.alloc (.cells #[.int .i64 0, .string t] 26)).cell? ⟨y3.heap.size, 0, none⟩ = some (.int .i64 0) := by simp
      have m1 : (y3.alloc (.cells #[.int .i64 0, .string t] 26)).cell? ⟨y3.heap.size, 1, none⟩ = some (.string t) := by simp
      have n1 : (y3.alloc (.cells #[.int .i64 0, .string t] 26)).cell? ⟨y2.heap.size, 1, none⟩ = some (.string x) := (((Below.refl y3.heap.size y3).alloc (Nat.le_refl _) _).cell (p := ⟨y2.heap.size, 1, none⟩) hs3).trans r1
      have hs5 : y3.heap.size < (y3.alloc (.cells #[.int .i64 0, .string t] 26)).heap.size := by simp
      generalize y3.alloc (.cells #[.int .i64 0, .string t] 26) = y5 at *
      clear HY4 r1
      go_loop [8] (fun i => ∃ k : Nat, k ≤ x.size ∧ i = .int .i64 k) (fun i => x.size - (intOf i).toNat)
      case atStart => exact ⟨0, Nat.zero_le _, rfl⟩
      case round =>
        obtain ⟨k, hk, rfl⟩ := hrel
        by_cases hlt : k < x.size
        · have q1 : (k : Int) < (x.size : Int) := by omega
          obtain ⟨s1, s2, s3⟩ := HS.out k hlt
          have b1 : ((x[k].toNat : Int) == 60) = false := by rw [beq_eq_false_iff_ne]; omega
          have b2 : ((x[k].toNat : Int) == 62) = false := by rw [beq_eq_false_iff_ne]; omega
          have b3 : ((x[k].toNat : Int) == 34) = false := by rw [beq_eq_false_iff_ne]; omega
          go_wp2
          refine ⟨⟨k + 1, by omega, by go_num⟩, ?_⟩
          simp [intOf]
          omega
        · have q1 : ¬ (k : Int) < (x.size : Int) := by omega
          have f1 := fld1 0 x
          have d1 : (t.toList == t.toList) = true := by simp
          have d2 : (x.toList == x.toList) = true := by simp
          have hB5 : Below w0.heap.size w0 y5.drew := HY5.out.drew
          have t0 : y5.drew.cell? ⟨y3.heap.size, 0, none⟩ = some (.int .i64 0) := m0
          have t1 : y5.drew.cell? ⟨y3.heap.size, 1, none⟩ = some (.string t) := m1
          have t2 : y5.drew.cell? ⟨y2.heap.size, 1, none⟩ = some (.string x) := n1
          have hs5d : y3.heap.size < y5.drew.heap.size := hs5
          go_wp2_with fail
          go_region_held3 (fun wx => wx.cell? ⟨y3.heap.size, 0, none⟩ = some (.int .i64 0) ∧ wx.cell? ⟨y3.heap.size, 1, none⟩ = some (.string t) ∧ wx.cell? ⟨y2.heap.size, 1, none⟩ = some (.string x) ∧ Below w0.heap.size w0 wx) (refine ⟨?_, ?_, ?_, ?_⟩ <;> assumption) (first
            | (go_at_call 10; refine (HSE.out _).mono ?_; rintro e y6 ⟨rfl, hb6⟩; have hB6 : Below w0.heap.size w0 y6 := hB5.trans (hb6.mono hB5.size); have g0 : y6.cell? ⟨y3.heap.size, 0, none⟩ = some (.int .i64 0) := (hb6.cell (p := ⟨y3.heap.size, 0, none⟩) hs5d).trans t0; have g1 : y6.cell? ⟨y3.heap.size, 1, none⟩ = some (.string t) := (hb6.cell (p := ⟨y3.heap.size, 1, none⟩) hs5d).trans t1; have g2 : y6.cell? ⟨y2.heap.size, 1, none⟩ = some (.string x) := (hb6.cell (p := ⟨y2.heap.size, 1, none⟩) (Nat.lt_trans hs3 hs5d)).trans t2; clear hb6))
          all_goals (go_wp2; go_ret; exact ⟨rfl, hB6⟩)
    · have hVB := escVal_bad rfl hv
      rw [hVB] at HSE ⊢
      generalize vcode t.data.toList = v at *
      clear hVB
      have b0 : (v != 0) = true := by simpa using hv
      have b1 : (v == v) = true := by simp
      have f0 := fld0 v
      go_wp2_with fail
      have c0 : (y2.alloc (.cells #[.int .i64 v, .string { data := #[] }] 26)).drew.cell? ⟨y2.heap.size, 0, none⟩ = some (.int .i64 v) := by simp
      have hB3 : Below w0.heap.size w0 (y2.alloc (.cells #[.int .i64 v, .string { data := #[] }] 26)).drew := (HY2.out.alloc hs02 _).drew
      have hz3 : y2.heap.size < (y2.alloc (.cells #[.int .i64 v, .string { data := #[] }] 26)).drew.heap.size := by simp
      go_region_held3 (fun wx => wx.cell? ⟨y2.heap.size, 0, none⟩ = some (.int .i64 v) ∧ Below w0.heap.size w0 wx) (refine ⟨?_, ?_⟩ <;> assumption) (first
        | (go_at_call 10; refine (HSE.out _).mono ?_; rintro e y4 ⟨rfl, hb4⟩; have hB4 : Below w0.heap.size w0 y4 := hB3.trans (hb4.mono hB3.size); have g0 : y4.cell? ⟨y2.heap.size, 0, none⟩ = some (.int .i64 v) := (hb4.cell (p := ⟨y2.heap.size, 0, none⟩) hz3).trans c0; clear hb4))
      all_goals (go_wp2; go_ret; exact ⟨rfl, hB4⟩)
end Un
end Go.Proofs.YtbnpejijfnigaaaDoor
