/- The line at the beginning of bytes, as the specification finds it. No condition. -/
import Derived.Test.YtiliahibnhfhoaaJnH
import Derived.Deep.RegionHeld3
namespace Go.Proofs.Ytiliahibnhfhoaa
open Go.RowKit
set_option linter.unusedVariables false
namespace Jn
theorem oneN_eq (d : List UInt8) (h : lenN d + 3 ≤ d.length) : (faultC (oneL d) = 0 ∧ (packL (oneL d) = d.take (lenN d + 3)) → oneN d = lenN d + 3 ∧ oneS d = oneL d) ∧ (¬ (faultC (oneL d) = 0 ∧ (packL (oneL d) = d.take (lenN d + 3))) → oneN d = 0 ∧ oneS d = []) := by
  constructor
  · rintro ⟨h1, h2⟩
    refine oneN_pos ?_
    unfold oneB
    rw [decide_eq_true h, decide_eq_true h1, decide_eq_true h2]
    rfl
  · intro hn
    refine oneN_zero ?_
    cases hb : oneB d with
    | false => rfl
    | true =>
      obtain ⟨h1, h2, h3⟩ := of_oneB hb
      exact absurd ⟨h2, h3⟩ hn
theorem one_empty {d : List UInt8} (h : lenN d = 0) : oneN d = 0 ∧ oneS d = [] := by
  refine oneN_zero ?_
  cases hb : oneB d with
  | false => rfl
  | true =>
    obtain ⟨h1, h2, h3⟩ := of_oneB hb
    have := fault_len h2
    rw [oneL_len h1] at this
    omega
set_option maxRecDepth 100000 in
set_option maxHeartbeats 4000000 in
theorem specOne (B : Nat) (d : List UInt8) (v : Value) (w : World) (hd : d.length ≤ 1048576) (hB : B ≤ w.heap.size) (ha : At w B v d) : Calls Try.prog 56 #[v] w (OPost d w) := by
  obtain ⟨a, c, rfl, hc⟩ := ha.slice
  have HA := hid ha
  clear ha
  obtain ⟨r, hr⟩ : ∃ r, Hid (r = oneS d) := ⟨_, hid rfl⟩
  obtain ⟨n, hn⟩ : ∃ n, Hid (n = oneN d) := ⟨_, hid rfl⟩
  unfold OPost
  rw [← hr.out, ← hn.out]
  by_cases h0 : d.length < 4
  · have q1 : (d.length : Int) < 4 := by omega
    have HX : Hid (oneN d = 0 ∧ oneS d = []) := hid (by
      by_cases h : d.length < lenN d + 3
      · exact one_short h
      · exact one_empty (by omega))
    clear h0
    go_enter Try.func56, Try.ntmps56
    go_wp2
    go_ret2
    exact ⟨by rw [hr.out, hn.out, HX.out.1, HX.out.2]; rfl, Below.refl _ _⟩
  obtain ⟨g, o, rfl, hg, hcell⟩ := HA.out.at (i := 0) (by omega)
  have hl0 := lenN_get (d := d) (by omega)
  have hlt := lenN_lt d
  have q1 : ¬ (d.length : Int) < 4 := by omega
  unfold vb at hcell
  rw [← hl0, Nat.add_zero] at hcell
  clear hl0
  by_cases h1 : lenN d = 0
  · have HX := hid (one_empty h1)
    rw [h1] at hcell
    change w.cell? ⟨g, o, none⟩ = some (.int .u8 0) at hcell
    clear h1 hlt
    go_enter Try.func56, Try.ntmps56
    go_wp2
    go_ret2
    exact ⟨by rw [hr.out, hn.out, HX.out.1, HX.out.2]; rfl, Below.refl _ _⟩
  have q2 : ¬ (lenN d : Int) + 3 < 4 := by omega
  by_cases h2 : d.length < lenN d + 3
  · have HX := hid (one_short h2)
    have q3 : (d.length : Int) < (lenN d : Int) + 3 := by omega
    generalize lenN d = m at *
    clear h0 h1
    go_enter Try.func56, Try.ntmps56
    go_wp2
    go_ret2
    exact ⟨by rw [hr.out, hn.out, HX.out.1, HX.out.2]; rfl, Below.refl _ _⟩
  have q3 : ¬ (d.length : Int) < (lenN d : Int) + 3 := by omega
  have hHA := HA.out
  obtain ⟨a', c', hsl, hat⟩ := hHA.mid 1 (lenN d + 1) (by omega) (by omega)
  rw [Nat.add_sub_cancel] at hsl hat
  obtain ⟨_, hsl3, hat3, rfl⟩ := hHA.to (lenN d + 3) (by omega)
  have hlo : (oneL d).length = lenN d := by unfold oneL; rw [List.length_take, List.length_drop]; omega
  have hcv := hat.str
  change Sem.run Try.prog (convert 24 9 (.slice a' (lenN d) c')) w = .ok (.string (str (oneL d))) w at hcv
  have hcv2 : ∀ w', Below w.heap.size w w' → Sem.run Try.prog (convert 24 9 (.slice (some ⟨g, o, none⟩) (lenN d + 3) c)) w' = .ok (.string (str (d.take (lenN d + 3)))) w' := fun w' hb => (hat3.below hb hB).str
  have HAS := hid (oneN_eq d (by omega))
  have HF := hid (fun w' => specLine (oneL d) w' (by omega))
  have HP0 : Hid (faultC (oneL d) = 0 → ∀ w', Calls Try.prog 50 #[.string (str (oneL d))] w' (BPost (packL (oneL d)) w')) := hid (fun h w' => specPack (oneL d) w' (fault_len h).2)
  generalize oneL d = x at *
  obtain ⟨sx, hsx⟩ : ∃ sx, Hid (sx = str x) := ⟨_, hid rfl⟩
  rw [← hsx.out] at hcv HF HP0
  generalize packL x = p at *
  generalize faultC x = f at *
  have hsl2 : ∀ w' : World, Sem.run Try.prog (Instr.slice 24 (.slice (some ⟨g, o, none⟩) d.length c) (some (.int .i64 1)) (some (.int .i64 ((lenN d : Int) + 3 - 2))) none) w' = .ok (.slice a' (lenN d) c') w' := fun w' => by
    have := hsl w'
    rw [show ((lenN d + 1 : Nat) : Int) = (lenN d : Int) + 3 - 2 by omega] at this
    exact this
  have hsl4 : ∀ w' : World, Sem.run Try.prog (Instr.slice 24 (.slice (some ⟨g, o, none⟩) d.length c) none (some (.int .i64 ((lenN d : Int) + 3))) none) w' = .ok (.slice (some ⟨g, o, none⟩) (lenN d + 3) c) w' := fun w' => by
    have := hsl3 w'
    rw [show ((lenN d + 3 : Nat) : Int) = (lenN d : Int) + 3 by omega] at this
    exact this
  clear hsl hsl3 hat hat3 hlo h2 h1 h0
  generalize lenN d = m at *
  have hbd : Below w.heap.size w w.drew := (Below.refl _ w).drew
  go_enter Try.func56, Try.ntmps56
  go_wp2
  by_cases hf : f = 0
  · have b1 : (f != 0) = false := by simp [hf]
    have HP := hid (HP0.out hf)
    have HZ := hid hf
    clear hf HP0
    refine wp_region_held_drew (S := fun wx => Below w.heap.size w wx) (by kernel_rfl) hbd (fun hHeld => ?_)
    refine wpAnyH_take (i := 0) (oi := { dst := some 27, op := Go.Op.move (Go.Operand.tmp 5), type := 9, pos := "l13_journal.go:45", after := #[], guard := none }) (v := .string sx) rfl (by kernel_rfl) (by kernel_rfl) (by kernel_rfl) (fun _ _ _ h => h) (Or.inl ⟨by rfl, by intro w hSw; (try dsimp only at hSw); go_simp⟩) (by assumption) ?_
    simp only [Act.put, List.setIfInBounds_toArray, List.set_cons_zero, List.set_cons_succ]
    refine wpAnyH_ready (rs := [1]) (by kernel_rfl) (by simp) ?_
    refine AllReadyH.cons (o := { dst := some 28, op := Go.Op.call { callee := Go.Callee.value (Go.Operand.func 13), args := #[Go.Operand.tmp 27], argTypes := #[9] }, type := 2, pos := "l13_journal.go:45", after := #[{ on := 0, ground := Go.Ground.data }], guard := none }) rfl (fun K hK => ?_) AllReadyH.nil
    go_simp
    go_at_call 13
    refine (HF.out _).mono ?_
    rintro z w3 ⟨rfl, hw3⟩
    replace hw3 := hw3.symm
    subst hw3
    go_wp2_with fail
    refine hK.out _ _ hbd (fun hHeld => ?_)
    clear hK K
    try simp only [Act.put, List.setIfInBounds_toArray, List.set_cons_zero, List.set_cons_succ]
    refine wpAnyH_take (i := 2) (oi := { dst := some 29, op := Go.Op.binOp Go.BinOp.neq 2 (Go.Operand.tmp 28) (Go.Operand.const (Go.Value.int Go.IntKind.i64 0)) 2, type := 4, pos := "l13_journal.go:45", after := #[{ on := 1, ground := Go.Ground.data }], guard := none }) (v := .bool false) rfl (by kernel_rfl) (by kernel_rfl) (by kernel_rfl) (fun _ _ _ h => h) (Or.inl ⟨by rfl, by intro w hSw; (try dsimp only at hSw); go_simp⟩) (by assumption) ?_
    simp only [Act.put, List.setIfInBounds_toArray, List.set_cons_zero, List.set_cons_succ]
    refine wpAnyH_take (i := 3) (oi := { dst := some 30, op := Go.Op.move (Go.Operand.tmp 29), type := 4, pos := "l13_journal.go:45", after := #[{ on := 2, ground := Go.Ground.data }, { on := 1, ground := Go.Ground.chain }], guard := none }) (v := .bool false) rfl (by kernel_rfl) (by kernel_rfl) (by kernel_rfl) (fun _ _ _ h => h) (Or.inl ⟨by rfl, by intro w hSw; (try dsimp only at hSw); go_simp⟩) (by assumption) ?_
    simp only [Act.put, List.setIfInBounds_toArray, List.set_cons_zero, List.set_cons_succ]
    refine wpAnyH_take (i := 4) (oi := { dst := some 31, op := Go.Op.move (Go.Operand.tmp 5), type := 9, pos := "l13_journal.go:45", after := #[{ on := 3, ground := Go.Ground.guard }], guard := some (3, false) }) (v := .string sx) rfl (by kernel_rfl) (by kernel_rfl) (by kernel_rfl) (fun _ _ _ h => h) (Or.inl ⟨by rfl, by intro w hSw; (try dsimp only at hSw); go_simp⟩) (by assumption) ?_
    simp only [Act.put, List.setIfInBounds_toArray, List.set_cons_zero, List.set_cons_succ]
    refine wpAnyH_take (i := 7) (oi := { dst := some 34, op := Go.Op.move (Go.Operand.tmp 0), type := 24, pos := "l13_journal.go:45", after := #[{ on := 3, ground := Go.Ground.guard }], guard := some (3, false) }) (v := .slice (some ⟨g, o, none⟩) d.length c) rfl (by kernel_rfl) (by kernel_rfl) (by kernel_rfl) (fun _ _ _ h => h) (Or.inl ⟨by rfl, by intro w hSw; (try dsimp only at hSw); go_simp⟩) (by assumption) ?_
    simp only [Act.put, List.setIfInBounds_toArray, List.set_cons_zero, List.set_cons_succ]
    refine wpAnyH_take (i := 8) (oi := { dst := some 35, op := Go.Op.move (Go.Operand.tmp 4), type := 3, pos := "l13_journal.go:45", after := #[{ on := 3, ground := Go.Ground.guard }], guard := some (3, false) }) (v := .int .i64 ((m : Int) + 3)) rfl (by kernel_rfl) (by kernel_rfl) (by kernel_rfl) (fun _ _ _ h => h) (Or.inl ⟨by rfl, by intro w hSw; (try dsimp only at hSw); go_simp⟩) (by assumption) ?_
    simp only [Act.put, List.setIfInBounds_toArray, List.set_cons_zero, List.set_cons_succ]
    refine wpAnyH_take (i := 9) (oi := { dst := some 36, op := Go.Op.slice 24 (Go.Operand.tmp 34) none (some (Go.Operand.tmp 35)) none, type := 24, pos := "l13_journal.go:45", after := #[{ on := 7, ground := Go.Ground.data }, { on := 8, ground := Go.Ground.data }, { on := 3, ground := Go.Ground.guard }], guard := some (3, false) }) (v := .slice (some ⟨g, o, none⟩) (m + 3) c) rfl (by kernel_rfl) (by kernel_rfl) (by kernel_rfl) (fun _ _ _ h => h) (Or.inl ⟨by rfl, by intro w hSw; (try dsimp only at hSw); go_simp⟩) (by assumption) ?_
    simp only [Act.put, List.setIfInBounds_toArray, List.set_cons_zero, List.set_cons_succ]
    refine wpAnyH_take (i := 10) (oi := { dst := some 37, op := Go.Op.convert 24 9 (Go.Operand.tmp 36), type := 9, pos := "l13_journal.go:45", after := #[{ on := 9, ground := Go.Ground.data }, { on := 3, ground := Go.Ground.guard }], guard := some (3, false) }) (v := .string (str (d.take (m + 3)))) rfl (by kernel_rfl) (by kernel_rfl) (by kernel_rfl) (fun _ _ _ h => h) (Or.inl ⟨by rfl, by intro w hSw; (try dsimp only at hSw); have hcw := hcv2 _ hSw; go_simp⟩) (by assumption) ?_
    simp only [Act.put, List.setIfInBounds_toArray, List.set_cons_zero, List.set_cons_succ]
    refine wpAnyH_ready (rs := [5]) (by kernel_rfl) (by simp) ?_
    refine AllReadyH.cons (o := { dst := some 32, op := Go.Op.call { callee := Go.Callee.value (Go.Operand.func 50), args := #[Go.Operand.tmp 31], argTypes := #[9] }, type := 24, pos := "l13_journal.go:45", after := #[{ on := 4, ground := Go.Ground.data }, { on := 3, ground := Go.Ground.chain }, { on := 3, ground := Go.Ground.guard }], guard := some (3, false) }) rfl (fun K hK => ?_) AllReadyH.nil
    go_simp
    go_at_call 50
    refine (HP.out _).mono ?_
    rintro z w3 ⟨a3, k3, rfl, ho3, hb3⟩
    have hbb : Below w.heap.size w w3 := hbd.trans (hb3.mono hbd.size)
    have hcw3 := ho3.at.str
    clear hb3 ho3
    go_wp2_with fail
    refine hK.out _ _ hbb (fun hHeld => ?_)
    clear hK K
    try simp only [Act.put, List.setIfInBounds_toArray, List.set_cons_zero, List.set_cons_succ]
    refine wpAnyH_ready (rs := [6]) (by kernel_rfl) (by simp) ?_
    refine AllReadyH.cons (o := { dst := some 33, op := Go.Op.convert 24 9 (Go.Operand.tmp 32), type := 9, pos := "l13_journal.go:45", after := #[{ on := 5, ground := Go.Ground.data }, { on := 3, ground := Go.Ground.guard }], guard := some (3, false) }) rfl (fun K hK => ?_) AllReadyH.nil
    go_simp
    refine hK.out _ _ hbb (fun hHeld => ?_)
    clear hK K
    try simp only [Act.put, List.setIfInBounds_toArray, List.set_cons_zero, List.set_cons_succ]
    by_cases hx : p = d.take (m + 3)
    · have hcmp : ((str p).toList == (str (d.take (m + 3))).toList) = true := by rw [str_eq]; exact decide_eq_true hx
      have HX := hid (HAS.out.1 ⟨HZ.out, hx⟩)
      clear hx
      refine wpAnyH_take (i := 11) (oi := { dst := some 38, op := Go.Op.binOp Go.BinOp.neq 9 (Go.Operand.tmp 33) (Go.Operand.tmp 37) 9, type := 4, pos := "l13_journal.go:45", after := #[{ on := 6, ground := Go.Ground.data }, { on := 10, ground := Go.Ground.data }, { on := 3, ground := Go.Ground.guard }], guard := some (3, false) }) (v := .bool false) rfl (by kernel_rfl) (by kernel_rfl) (by kernel_rfl) (fun _ _ _ h => h) (Or.inl ⟨by rfl, by intro w hSw; (try dsimp only at hSw); go_simp⟩) (by assumption) ?_
      simp only [Act.put, List.setIfInBounds_toArray, List.set_cons_zero, List.set_cons_succ]
      refine wpAnyH_take (i := 12) (oi := { dst := some 39, op := Go.Op.pick (Go.Operand.tmp 30) (Go.Operand.const (Go.Value.bool true)) (Go.Operand.tmp 38), type := 4, pos := "l13_journal.go:45", after := #[{ on := 3, ground := Go.Ground.data }, { on := 11, ground := Go.Ground.data }], guard := none }) (v := .bool false) rfl (by kernel_rfl) (by kernel_rfl) (by kernel_rfl) (fun _ _ _ h => h) (Or.inl ⟨by rfl, by intro w hSw; (try dsimp only at hSw); go_simp⟩) (by assumption) ?_
      simp only [Act.put, List.setIfInBounds_toArray, List.set_cons_zero, List.set_cons_succ]
      refine wpAnyH_done (by kernel_rfl) ?_ _
      go_wp2
      go_ret2
      exact ⟨by rw [hr.out, hn.out, HX.out.1, HX.out.2, ← hsx.out]; rfl, hbb⟩
    · have hcmp : ((str p).toList == (str (d.take (m + 3))).toList) = false := by rw [str_eq]; exact decide_eq_false hx
      have HX := hid (HAS.out.2 (fun h => hx h.2))
      clear hx
      refine wpAnyH_take (i := 11) (oi := { dst := some 38, op := Go.Op.binOp Go.BinOp.neq 9 (Go.Operand.tmp 33) (Go.Operand.tmp 37) 9, type := 4, pos := "l13_journal.go:45", after := #[{ on := 6, ground := Go.Ground.data }, { on := 10, ground := Go.Ground.data }, { on := 3, ground := Go.Ground.guard }], guard := some (3, false) }) (v := .bool true) rfl (by kernel_rfl) (by kernel_rfl) (by kernel_rfl) (fun _ _ _ h => h) (Or.inl ⟨by rfl, by intro w hSw; (try dsimp only at hSw); go_simp⟩) (by assumption) ?_
      simp only [Act.put, List.setIfInBounds_toArray, List.set_cons_zero, List.set_cons_succ]
      refine wpAnyH_take (i := 12) (oi := { dst := some 39, op := Go.Op.pick (Go.Operand.tmp 30) (Go.Operand.const (Go.Value.bool true)) (Go.Operand.tmp 38), type := 4, pos := "l13_journal.go:45", after := #[{ on := 3, ground := Go.Ground.data }, { on := 11, ground := Go.Ground.data }], guard := none }) (v := .bool true) rfl (by kernel_rfl) (by kernel_rfl) (by kernel_rfl) (fun _ _ _ h => h) (Or.inl ⟨by rfl, by intro w hSw; (try dsimp only at hSw); go_simp⟩) (by assumption) ?_
      simp only [Act.put, List.setIfInBounds_toArray, List.set_cons_zero, List.set_cons_succ]
      refine wpAnyH_done (by kernel_rfl) ?_ _
      go_wp2
      go_ret2
      exact ⟨by rw [hr.out, hn.out, HX.out.1, HX.out.2]; rfl, hbb⟩
  · have b1 : (f != 0) = true := by simpa using hf
    have HX := hid (HAS.out.2 (fun h => hf h.1))
    clear hf HP0
    refine wp_region_held_drew (S := fun wx => Below w.heap.size w wx) (by kernel_rfl) hbd (fun hHeld => ?_)
    refine wpAnyH_take (i := 0) (oi := { dst := some 27, op := Go.Op.move (Go.Operand.tmp 5), type := 9, pos := "l13_journal.go:45", after := #[], guard := none }) (v := .string sx) rfl (by kernel_rfl) (by kernel_rfl) (by kernel_rfl) (fun _ _ _ h => h) (Or.inl ⟨by rfl, by intro w hSw; (try dsimp only at hSw); go_simp⟩) (by assumption) ?_
    simp only [Act.put, List.setIfInBounds_toArray, List.set_cons_zero, List.set_cons_succ]
    refine wpAnyH_ready (rs := [1]) (by kernel_rfl) (by simp) ?_
    refine AllReadyH.cons (o := { dst := some 28, op := Go.Op.call { callee := Go.Callee.value (Go.Operand.func 13), args := #[Go.Operand.tmp 27], argTypes := #[9] }, type := 2, pos := "l13_journal.go:45", after := #[{ on := 0, ground := Go.Ground.data }], guard := none }) rfl (fun K hK => ?_) AllReadyH.nil
    go_simp
    go_at_call 13
    refine (HF.out _).mono ?_
    rintro z w3 ⟨rfl, hw3⟩
    replace hw3 := hw3.symm
    subst hw3
    go_wp2_with fail
    refine hK.out _ _ hbd (fun hHeld => ?_)
    clear hK K
    try simp only [Act.put, List.setIfInBounds_toArray, List.set_cons_zero, List.set_cons_succ]
    refine wpAnyH_take (i := 2) (oi := { dst := some 29, op := Go.Op.binOp Go.BinOp.neq 2 (Go.Operand.tmp 28) (Go.Operand.const (Go.Value.int Go.IntKind.i64 0)) 2, type := 4, pos := "l13_journal.go:45", after := #[{ on := 1, ground := Go.Ground.data }], guard := none }) (v := .bool true) rfl (by kernel_rfl) (by kernel_rfl) (by kernel_rfl) (fun _ _ _ h => h) (Or.inl ⟨by rfl, by intro w hSw; (try dsimp only at hSw); go_simp⟩) (by assumption) ?_
    simp only [Act.put, List.setIfInBounds_toArray, List.set_cons_zero, List.set_cons_succ]
    refine wpAnyH_take (i := 3) (oi := { dst := some 30, op := Go.Op.move (Go.Operand.tmp 29), type := 4, pos := "l13_journal.go:45", after := #[{ on := 2, ground := Go.Ground.data }, { on := 1, ground := Go.Ground.chain }], guard := none }) (v := .bool true) rfl (by kernel_rfl) (by kernel_rfl) (by kernel_rfl) (fun _ _ _ h => h) (Or.inl ⟨by rfl, by intro w hSw; (try dsimp only at hSw); go_simp⟩) (by assumption) ?_
    simp only [Act.put, List.setIfInBounds_toArray, List.set_cons_zero, List.set_cons_succ]
    refine wpAnyH_take (i := 4) (oi := { dst := some 31, op := Go.Op.move (Go.Operand.tmp 5), type := 9, pos := "l13_journal.go:45", after := #[{ on := 3, ground := Go.Ground.guard }], guard := some (3, false) }) (v := undef) rfl (by kernel_rfl) (by kernel_rfl) (by kernel_rfl) (fun _ _ _ h => h) (Or.inr ⟨by rfl, rfl⟩) (by assumption) ?_
    simp only [Act.put, List.setIfInBounds_toArray, List.set_cons_zero, List.set_cons_succ]
    refine wpAnyH_take (i := 5) (oi := { dst := some 32, op := Go.Op.call { callee := Go.Callee.value (Go.Operand.func 50), args := #[Go.Operand.tmp 31], argTypes := #[9] }, type := 24, pos := "l13_journal.go:45", after := #[{ on := 4, ground := Go.Ground.data }, { on := 3, ground := Go.Ground.chain }, { on := 3, ground := Go.Ground.guard }], guard := some (3, false) }) (v := undef) rfl (by kernel_rfl) (by kernel_rfl) (by kernel_rfl) (fun _ _ _ h => h) (Or.inr ⟨by rfl, rfl⟩) (by assumption) ?_
    simp only [Act.put, List.setIfInBounds_toArray, List.set_cons_zero, List.set_cons_succ]
    refine wpAnyH_take (i := 6) (oi := { dst := some 33, op := Go.Op.convert 24 9 (Go.Operand.tmp 32), type := 9, pos := "l13_journal.go:45", after := #[{ on := 5, ground := Go.Ground.data }, { on := 3, ground := Go.Ground.guard }], guard := some (3, false) }) (v := undef) rfl (by kernel_rfl) (by kernel_rfl) (by kernel_rfl) (fun _ _ _ h => h) (Or.inr ⟨by rfl, rfl⟩) (by assumption) ?_
    simp only [Act.put, List.setIfInBounds_toArray, List.set_cons_zero, List.set_cons_succ]
    refine wpAnyH_take (i := 7) (oi := { dst := some 34, op := Go.Op.move (Go.Operand.tmp 0), type := 24, pos := "l13_journal.go:45", after := #[{ on := 3, ground := Go.Ground.guard }], guard := some (3, false) }) (v := undef) rfl (by kernel_rfl) (by kernel_rfl) (by kernel_rfl) (fun _ _ _ h => h) (Or.inr ⟨by rfl, rfl⟩) (by assumption) ?_
    simp only [Act.put, List.setIfInBounds_toArray, List.set_cons_zero, List.set_cons_succ]
    refine wpAnyH_take (i := 8) (oi := { dst := some 35, op := Go.Op.move (Go.Operand.tmp 4), type := 3, pos := "l13_journal.go:45", after := #[{ on := 3, ground := Go.Ground.guard }], guard := some (3, false) }) (v := undef) rfl (by kernel_rfl) (by kernel_rfl) (by kernel_rfl) (fun _ _ _ h => h) (Or.inr ⟨by rfl, rfl⟩) (by assumption) ?_
    simp only [Act.put, List.setIfInBounds_toArray, List.set_cons_zero, List.set_cons_succ]
    refine wpAnyH_take (i := 9) (oi := { dst := some 36, op := Go.Op.slice 24 (Go.Operand.tmp 34) none (some (Go.Operand.tmp 35)) none, type := 24, pos := "l13_journal.go:45", after := #[{ on := 7, ground := Go.Ground.data }, { on := 8, ground := Go.Ground.data }, { on := 3, ground := Go.Ground.guard }], guard := some (3, false) }) (v := undef) rfl (by kernel_rfl) (by kernel_rfl) (by kernel_rfl) (fun _ _ _ h => h) (Or.inr ⟨by rfl, rfl⟩) (by assumption) ?_
    simp only [Act.put, List.setIfInBounds_toArray, List.set_cons_zero, List.set_cons_succ]
    refine wpAnyH_take (i := 10) (oi := { dst := some 37, op := Go.Op.convert 24 9 (Go.Operand.tmp 36), type := 9, pos := "l13_journal.go:45", after := #[{ on := 9, ground := Go.Ground.data }, { on := 3, ground := Go.Ground.guard }], guard := some (3, false) }) (v := undef) rfl (by kernel_rfl) (by kernel_rfl) (by kernel_rfl) (fun _ _ _ h => h) (Or.inr ⟨by rfl, rfl⟩) (by assumption) ?_
    simp only [Act.put, List.setIfInBounds_toArray, List.set_cons_zero, List.set_cons_succ]
    refine wpAnyH_take (i := 11) (oi := { dst := some 38, op := Go.Op.binOp Go.BinOp.neq 9 (Go.Operand.tmp 33) (Go.Operand.tmp 37) 9, type := 4, pos := "l13_journal.go:45", after := #[{ on := 6, ground := Go.Ground.data }, { on := 10, ground := Go.Ground.data }, { on := 3, ground := Go.Ground.guard }], guard := some (3, false) }) (v := undef) rfl (by kernel_rfl) (by kernel_rfl) (by kernel_rfl) (fun _ _ _ h => h) (Or.inr ⟨by rfl, rfl⟩) (by assumption) ?_
    simp only [Act.put, List.setIfInBounds_toArray, List.set_cons_zero, List.set_cons_succ]
    refine wpAnyH_take (i := 12) (oi := { dst := some 39, op := Go.Op.pick (Go.Operand.tmp 30) (Go.Operand.const (Go.Value.bool true)) (Go.Operand.tmp 38), type := 4, pos := "l13_journal.go:45", after := #[{ on := 3, ground := Go.Ground.data }, { on := 11, ground := Go.Ground.data }], guard := none }) (v := .bool true) rfl (by kernel_rfl) (by kernel_rfl) (by kernel_rfl) (fun _ _ _ h => h) (Or.inl ⟨by rfl, by intro w hSw; (try dsimp only at hSw); go_simp⟩) (by assumption) ?_
    simp only [Act.put, List.setIfInBounds_toArray, List.set_cons_zero, List.set_cons_succ]
    refine wpAnyH_done (by kernel_rfl) ?_ _
    go_wp2
    go_ret2
    exact ⟨by rw [hr.out, hn.out, HX.out.1, HX.out.2]; rfl, hbd⟩
end Jn
end Go.Proofs.Ytiliahibnhfhoaa
