/- Laid together: JnH, JnK. -/
import Derived.Test.YtccklgopcjilcaaGreatDoorJWF19
import Derived.Deep.QuietTactic
import Derived.BigQuiet
import Derived.Deep.RegionHeld3
/- The line at the beginning of bytes, as the program and as the specification find it. No condition. -/
namespace Go.Proofs.YtccklgopcjilcaaGreatDoor
open Go.RowKit
set_option linter.unusedVariables false
namespace Jn
theorem below_drewN' {B : Nat} {a w : World} (h : Below B a w) (n : Nat) : Below B a (w.drewN n) := ⟨h.os, h.tape, h.output, h.size, h.block⟩
theorem str_eq (a b : List UInt8) : ((str a).toList == (str b).toList) = decide (a = b) := by
  unfold str
  rw [ByteArray.toList_mk, ByteArray.toList_mk]
  by_cases h : a = b <;> simp [h]
theorem implEqual (B : Nat) (d p : List UInt8) (a1 a2 : Option Addr) (c1 c2 : Nat) (w : World) (h1 : At w B (.slice a1 d.length c1) d) (h2 : At w B (.slice a2 p.length c2) p) :
    Calls Tryz.prog 252 #[.slice a1 d.length c1, .slice a2 p.length c2] w fun e w' => e = .returned (.bool (decide (d = p))) ∧ w' = w := by
  have e1 := h1.str
  have e2 := h2.str
  clear h1 h2
  go_enter Tryz.func252, Tryz.ntmps252
  go_wp2
  go_ret
  exact ⟨by rw [← str_eq]; rfl, rfl⟩
theorem implPrefix (B : Nat) (d p : List UInt8) (a1 a2 : Option Addr) (c1 c2 : Nat) (w : World) (h1 : At w B (.slice a1 d.length c1) d) (h2 : At w B (.slice a2 p.length c2) p) :
    Calls Tryz.prog 230 #[.slice a1 d.length c1, .slice a2 p.length c2] w fun e w' => e = .returned (.bool (decide (p.length ≤ d.length) && decide (d.take p.length = p))) ∧ w' = w := by
  by_cases hl : p.length ≤ d.length
  · have q1 : (p.length : Int) ≤ (d.length : Int) := by omega
    obtain ⟨a', hsl, hat, rfl⟩ := h1.to p.length hl
    have hlen : (d.take p.length).length = p.length := by rw [List.length_take]; omega
    have HE := hid (implEqual B (d.take p.length) p a' a2 c1 c2 w (by rw [hlen]; exact hat) h2)
    rw [hlen] at HE
    have HR : Hid ((decide (p.length ≤ d.length) && decide (d.take p.length = p)) = decide (d.take p.length = p)) := hid (by simp [hl])
    rw [HR.out]
    generalize decide (d.take p.length = p) = x at *
    clear h1 h2 hat hlen hl
    go_enter Tryz.func230, Tryz.ntmps230
    go_wp2_with fail
    refine HE.out.mono ?_
    rintro e w1 ⟨rfl, hw⟩
    replace hw := hw.symm
    subst hw
    go_wp2
    go_ret
    exact ⟨rfl, rfl⟩
  · have q1 : ¬ (p.length : Int) ≤ (d.length : Int) := by omega
    have HR : Hid ((decide (p.length ≤ d.length) && decide (d.take p.length = p)) = false) := hid (by simp [hl])
    rw [HR.out]
    clear h1 h2 hl
    go_enter Tryz.func230, Tryz.ntmps230
    go_wp2
    go_ret
    exact ⟨rfl, rfl⟩
/-- The answer: the line, and how many bytes it takes. -/
def OPost (d : List UInt8) (w : World) (e : Ending) (w' : World) : Prop := e = .returned (.tuple #[.string (str (oneS d)), .int .i64 (oneN d : Int)]) ∧ Below w.heap.size w w'
theorem one_short {d : List UInt8} (h : d.length < lenN d + 3) : oneN d = 0 ∧ oneS d = [] := oneN_zero (by unfold oneB; rw [decide_eq_false (by omega)]; rfl)
theorem len_nil {d : List UInt8} (h : d.length = 0) : d.length < lenN d + 3 := by
  omega
theorem lenN_get {d : List UInt8} (h : 0 < d.length) : lenN d = d[0].toNat := by
  cases d with
  | nil => simp at h
  | cons x xs => rfl
theorem lenN_lt (d : List UInt8) : lenN d < 256 := by
  unfold lenN
  cases d with
  | nil => decide
  | cons x xs => exact x.toNat_lt
/-- What the program asks of the line there: a code, and whether its bytes stand there. -/
theorem one_ask {d : List UInt8} (h : lenN d + 1 ≤ d.length) : (faultC (oneL d) = 0 ∧ ((packR (oneL d)).length ≤ d.length ∧ d.take (packR (oneL d)).length = packR (oneL d)) → oneN d = (packR (oneL d)).length ∧ oneS d = oneL d) ∧
    (¬ (faultC (oneL d) = 0 ∧ ((packR (oneL d)).length ≤ d.length ∧ d.take (packR (oneL d)).length = packR (oneL d))) → oneN d = 0 ∧ oneS d = []) := by
  have hlo : (oneL d).length = lenN d := by unfold oneL; rw [List.length_take, List.length_drop]; omega
  constructor
  · rintro ⟨h1, h2, h3⟩
    rw [packR_ok h1, pack_len, hlo] at h2 h3 ⊢
    have hb : oneB d = true := by
      unfold oneB
      rw [decide_eq_true h2, decide_eq_true h1, decide_eq_true h3.symm]
      rfl
    exact oneN_pos hb
  · intro hn
    refine oneN_zero ?_
    cases hb : oneB d with
    | false => rfl
    | true =>
      obtain ⟨h1, h2, h3⟩ := of_oneB hb
      refine absurd ⟨h2, ?_⟩ hn
      rw [packR_ok h2, pack_len, hlo]
      exact ⟨h1, h3.symm⟩
set_option maxRecDepth 100000 in
set_option maxHeartbeats 4000000 in
theorem implAhead (B : Nat) (d : List UInt8) (v : Value) (w : World) (hd : d.length ≤ 1048576) (hB : B ≤ w.heap.size) (ha : At w B v d) : Calls Tryz.prog 186 #[v] w (OPost d w) := by
  obtain ⟨a, c, rfl, hc⟩ := ha.slice
  have HA := hid ha
  clear ha
  obtain ⟨r, hr⟩ : ∃ r, Hid (r = oneS d) := ⟨_, hid rfl⟩
  obtain ⟨n, hn⟩ : ∃ n, Hid (n = oneN d) := ⟨_, hid rfl⟩
  unfold OPost
  rw [← hr.out, ← hn.out]
  by_cases h0 : d.length = 0
  · have q1 : ((d.length : Int) == 0) = true := beq_iff_eq.2 (by omega)
    have HX := hid (one_short (d := d) (by omega))
    clear h0
    go_enter Tryz.func186, Tryz.ntmps186
    go_wp2
    go_ret2
    exact ⟨by rw [hr.out, hn.out, HX.out.1, HX.out.2]; rfl, Below.refl _ _⟩
  obtain ⟨g, o, rfl, hg, hcell⟩ := HA.out.at (i := 0) (by omega)
  have hl0 := lenN_get (d := d) (by omega)
  have hlt := lenN_lt d
  have q1 : ((d.length : Int) == 0) = false := beq_eq_false_iff_ne.2 (by omega)
  unfold vb at hcell
  rw [← hl0, Nat.add_zero] at hcell
  have HL0 := hid hl0
  clear hl0
  by_cases h1 : d.length < lenN d + 1
  · have HX := hid (one_short (d := d) (by omega))
    have q2 : (d.length : Int) < 1 + (lenN d : Int) := by omega
    clear HL0
    generalize lenN d = m at *
    go_enter Tryz.func186, Tryz.ntmps186
    go_wp2
    go_ret2
    exact ⟨by rw [hr.out, hn.out, HX.out.1, HX.out.2]; rfl, Below.refl _ _⟩
  have hHA := HA.out
  obtain ⟨a', c', hsl, hat⟩ := hHA.mid 1 (lenN d + 1) (by omega) (by omega)
  rw [Nat.add_sub_cancel] at hsl hat
  have hlo : (oneL d).length = lenN d := by unfold oneL; rw [List.length_take, List.length_drop]; omega
  have hcv := fun w' (hb : Below w.heap.size w w') => (hat.below hb hB).str
  have HP := hid (fun w' => implPackLine (oneL d) w' (by omega))
  have HAS := hid (one_ask (d := d) (by omega))
  have hpl := packR_len (oneL d)
  change ∀ w', _ → Sem.run Tryz.prog (convert 31 9 (.slice a' (lenN d) c')) w' = .ok (.string (str (oneL d))) w' at hcv
  have hcv0 := hcv w (Below.refl _ _)
  generalize oneL d = x at *
  obtain ⟨sx, hsx⟩ : ∃ sx, Hid (sx = str x) := ⟨_, hid rfl⟩
  rw [← hsx.out] at hcv0 HP
  clear hcv
  generalize packR x = p at *
  generalize faultC x = f at *
  have q2 : ¬ (d.length : Int) < 1 + (lenN d : Int) := by omega
  have hsl2 : ∀ w' : World, Sem.run Tryz.prog (Instr.slice 31 (.slice (some ⟨g, o, none⟩) d.length c) (some (.int .i64 1)) (some (.int .i64 (1 + (lenN d : Int)))) none) w' = .ok (.slice a' (lenN d) c') w' := fun w' => by
    have := hsl w'
    rw [show ((lenN d + 1 : Nat) : Int) = 1 + (lenN d : Int) by omega] at this
    exact this
  clear HL0 hsl hat hlo h1 h0
  generalize lenN d = m at *
  go_enter Tryz.func186, Tryz.ntmps186
  go_wp2_with fail
  refine (HP.out _).mono ?_
  rintro e w1 ⟨a1, k1, rfl, ho, hb1⟩
  have HPF := hid (implPrefix (w1.heap.size + 1) d p (some ⟨g, o, none⟩) a1 c k1 (w1.alloc (.cells #[.int .i64 f, .slice a1 p.length k1] 297))
    ((HA.out.below (hb1.alloc hb1.size _) hB).mono (by have := hb1.size; omega)) ((ho.at.below ((Below.refl _ w1).alloc (Nat.le_refl _) _) (Nat.le_refl _)).mono (by omega)))
  have B1 := hid (hb1.alloc hb1.size (.cells #[.int .i64 f, .slice a1 p.length k1] 297))
  clear ho hb1
  by_cases hf : f = 0
  · have b1 : (f != 0) = false := by simp [hf]
    cases hx : (decide (p.length ≤ d.length) && decide (d.take p.length = p)) with
    | false =>
      have HX := hid (HAS.out.2 (fun h => by rw [decide_eq_true h.2.1, decide_eq_true h.2.2] at hx; cases hx))
      rw [hx] at HPF
      clear hf hx
      go_wp2_with fail
      refine HPF.out.mono ?_
      rintro e w2 ⟨rfl, hw⟩
      replace hw := hw.symm
      subst hw
      go_wp2
      go_ret2
      exact ⟨by rw [hr.out, hn.out, HX.out.1, HX.out.2]; rfl, B1.out⟩
    | true =>
      have HX := hid (HAS.out.1 ⟨hf, by rw [Bool.and_eq_true] at hx; exact ⟨of_decide_eq_true hx.1, of_decide_eq_true hx.2⟩⟩)
      rw [hx] at HPF
      clear hf hx
      go_wp2_with fail
      refine HPF.out.mono ?_
      rintro e w2 ⟨rfl, hw⟩
      replace hw := hw.symm
      subst hw
      go_wp2
      go_quiet (fail)
      go_wp2
      go_ret2
      exact ⟨by rw [hr.out, hn.out, HX.out.1, HX.out.2, ← hsx.out]; rfl, below_drewN' B1.out _⟩
  · have b1 : (f != 0) = true := by simpa using hf
    have HX := hid (HAS.out.2 (fun h => hf h.1))
    clear hf HPF
    go_wp2
    go_ret2
    exact ⟨by rw [hr.out, hn.out, HX.out.1, HX.out.2]; rfl, B1.out⟩
end Jn
end Go.Proofs.YtccklgopcjilcaaGreatDoor
/- The line at the beginning of bytes, as the specification finds it. No condition. -/
namespace Go.Proofs.YtccklgopcjilcaaGreatDoor
open Go.RowKit
set_option linter.unusedVariables false
namespace Jn
theorem oneN_eq (d : List UInt8) (h : lenN d + 3 ≤ d.length) : (faultC (oneL d) = 0 ∧ (packL (oneL d) = d.take (lenN d + 3)) → oneN d = lenN d + 3 ∧ oneS d = oneL d) ∧ (¬ (faultC (oneL d) = 0 ∧ (packL (oneL d) = d.take (lenN d + 3))) → oneN d = 0 ∧ oneS d = []) := by
  constructor
  · rintro ⟨h1, h2⟩
    refine oneN_pos ?_
    unfold oneB
    rw [decide_eq_true h, decide_eq_true h1, decide_eq_true h2]
    rfl
  · intro hn
    refine oneN_zero ?_
    cases hb : oneB d with
    | false => rfl
    | true =>
      obtain ⟨h1, h2, h3⟩ := of_oneB hb
      exact absurd ⟨h2, h3⟩ hn
theorem one_empty {d : List UInt8} (h : lenN d = 0) : oneN d = 0 ∧ oneS d = [] := by
  refine oneN_zero ?_
  cases hb : oneB d with
  | false => rfl
  | true =>
    obtain ⟨h1, h2, h3⟩ := of_oneB hb
    have := fault_len h2
    rw [oneL_len h1] at this
    omega
set_option maxRecDepth 100000 in
set_option maxHeartbeats 4000000 in
theorem specOne (B : Nat) (d : List UInt8) (v : Value) (w : World) (hd : d.length ≤ 1048576) (hB : B ≤ w.heap.size) (ha : At w B v d) : Calls Tryz.prog 185 #[v] w (OPost d w) := by
  obtain ⟨a, c, rfl, hc⟩ := ha.slice
  have HA := hid ha
  clear ha
  obtain ⟨r, hr⟩ : ∃ r, Hid (r = oneS d) := ⟨_, hid rfl⟩
  obtain ⟨n, hn⟩ : ∃ n, Hid (n = oneN d) := ⟨_, hid rfl⟩
  unfold OPost
  rw [← hr.out, ← hn.out]
  by_cases h0 : d.length < 4
  · have q1 : (d.length : Int) < 4 := by omega
    have HX : Hid (oneN d = 0 ∧ oneS d = []) := hid (by
      by_cases h : d.length < lenN d + 3
      · exact one_short h
      · exact one_empty (by omega))
    clear h0
    go_enter Tryz.func185, Tryz.ntmps185
    go_wp2
    go_ret2
    exact ⟨by rw [hr.out, hn.out, HX.out.1, HX.out.2]; rfl, Below.refl _ _⟩
  obtain ⟨g, o, rfl, hg, hcell⟩ := HA.out.at (i := 0) (by omega)
  have hl0 := lenN_get (d := d) (by omega)
  have hlt := lenN_lt d
  have q1 : ¬ (d.length : Int) < 4 := by omega
  unfold vb at hcell
  rw [← hl0, Nat.add_zero] at hcell
  clear hl0
  by_cases h1 : lenN d = 0
  · have HX := hid (one_empty h1)
    rw [h1] at hcell
    change w.cell? ⟨g, o, none⟩ = some (.int .u8 0) at hcell
    clear h1 hlt
    go_enter Tryz.func185, Tryz.ntmps185
    go_wp2
    go_ret2
    exact ⟨by rw [hr.out, hn.out, HX.out.1, HX.out.2]; rfl, Below.refl _ _⟩
  have q2 : ¬ (lenN d : Int) + 3 < 4 := by omega
  by_cases h2 : d.length < lenN d + 3
  · have HX := hid (one_short h2)
    have q3 : (d.length : Int) < (lenN d : Int) + 3 := by omega
    generalize lenN d = m at *
    clear h0 h1
    go_enter Tryz.func185, Tryz.ntmps185
    go_wp2
    go_ret2
    exact ⟨by rw [hr.out, hn.out, HX.out.1, HX.out.2]; rfl, Below.refl _ _⟩
  have q3 : ¬ (d.length : Int) < (lenN d : Int) + 3 := by omega
  have hHA := HA.out
  obtain ⟨a', c', hsl, hat⟩ := hHA.mid 1 (lenN d + 1) (by omega) (by omega)
  rw [Nat.add_sub_cancel] at hsl hat
  obtain ⟨_, hsl3, hat3, rfl⟩ := hHA.to (lenN d + 3) (by omega)
  have hlo : (oneL d).length = lenN d := by unfold oneL; rw [List.length_take, List.length_drop]; omega
  have hcv := hat.str
  change Sem.run Tryz.prog (convert 31 9 (.slice a' (lenN d) c')) w = .ok (.string (str (oneL d))) w at hcv
  have hcv2 : ∀ w', Below w.heap.size w w' → Sem.run Tryz.prog (convert 31 9 (.slice (some ⟨g, o, none⟩) (lenN d + 3) c)) w' = .ok (.string (str (d.take (lenN d + 3)))) w' := fun w' hb => (hat3.below hb hB).str
  have HAS := hid (oneN_eq d (by omega))
  have HF := hid (fun w' => specLine (oneL d) w' (by omega))
  have HP0 : Hid (faultC (oneL d) = 0 → ∀ w', Calls Tryz.prog 228 #[.string (str (oneL d))] w' (BPost (packL (oneL d)) w')) := hid (fun h w' => specPack (oneL d) w' (fault_len h).2)
  generalize oneL d = x at *
  obtain ⟨sx, hsx⟩ : ∃ sx, Hid (sx = str x) := ⟨_, hid rfl⟩
  rw [← hsx.out] at hcv HF HP0
  generalize packL x = p at *
  generalize faultC x = f at *
  have hsl2 : ∀ w' : World, Sem.run Tryz.prog (Instr.slice 31 (.slice (some ⟨g, o, none⟩) d.length c) (some (.int .i64 1)) (some (.int .i64 ((lenN d : Int) + 3 - 2))) none) w' = .ok (.slice a' (lenN d) c') w' := fun w' => by
    have := hsl w'
    rw [show ((lenN d + 1 : Nat) : Int) = (lenN d : Int) + 3 - 2 by omega] at this
    exact this
  have hsl4 : ∀ w' : World, Sem.run Tryz.prog (Instr.slice 31 (.slice (some ⟨g, o, none⟩) d.length c) none (some (.int .i64 ((lenN d : Int) + 3))) none) w' = .ok (.slice (some ⟨g, o, none⟩) (lenN d + 3) c) w' := fun w' => by
    have := hsl3 w'
    rw [show ((lenN d + 3 : Nat) : Int) = (lenN d : Int) + 3 by omega] at this
    exact this
  clear hsl hsl3 hat hat3 hlo h2 h1 h0
  generalize lenN d = m at *
  have hbd : Below w.heap.size w w.drew := (Below.refl _ w).drew
  go_enter Tryz.func185, Tryz.ntmps185
  go_wp2
  by_cases hf : f = 0
  · have b1 : (f != 0) = false := by simp [hf]
    have HP := hid (HP0.out hf)
    have HZ := hid hf
    clear hf HP0
    refine wp_region_held_drew (S := fun wx => Below w.heap.size w wx) (by kernel_rfl) hbd (fun hHeld => ?_)
    refine wpAnyH_take (i := 0) (oi := { dst := some 27, op := Go.Op.move (Go.Operand.tmp 5), type := 9, pos := "l13_journal.go:45", after := #[], guard := none }) (v := .string sx) rfl (by kernel_rfl) (by kernel_rfl) (by kernel_rfl) (fun _ _ _ h => h) (Or.inl ⟨by rfl, by intro w hSw; (try dsimp only at hSw); go_simp⟩) (by assumption) ?_
    simp only [Act.put, List.setIfInBounds_toArray, List.set_cons_zero, List.set_cons_succ]
    refine wpAnyH_ready (rs := [1]) (by kernel_rfl) (by simp) ?_
    refine AllReadyH.cons (o := { dst := some 28, op := Go.Op.call { callee := Go.Callee.value (Go.Operand.func 227), args := #[Go.Operand.tmp 27], argTypes := #[9] }, type := 2, pos := "l13_journal.go:45", after := #[{ on := 0, ground := Go.Ground.data }], guard := none }) rfl (fun K hK => ?_) AllReadyH.nil
    go_simp
    go_at_call 227
    refine (HF.out _).mono ?_
    rintro z w3 ⟨rfl, hw3⟩
    replace hw3 := hw3.symm
    subst hw3
    go_wp2_with fail
    refine hK.out _ _ hbd (fun hHeld => ?_)
    clear hK K
    try simp only [Act.put, List.setIfInBounds_toArray, List.set_cons_zero, List.set_cons_succ]
    refine wpAnyH_take (i := 2) (oi := { dst := some 29, op := Go.Op.binOp Go.BinOp.neq 2 (Go.Operand.tmp 28) (Go.Operand.const (Go.Value.int Go.IntKind.i64 0)) 2, type := 4, pos := "l13_journal.go:45", after := #[{ on := 1, ground := Go.Ground.data }], guard := none }) (v := .bool false) rfl (by kernel_rfl) (by kernel_rfl) (by kernel_rfl) (fun _ _ _ h => h) (Or.inl ⟨by rfl, by intro w hSw; (try dsimp only at hSw); go_simp⟩) (by assumption) ?_
    simp only [Act.put, List.setIfInBounds_toArray, List.set_cons_zero, List.set_cons_succ]
    refine wpAnyH_take (i := 3) (oi := { dst := some 30, op := Go.Op.move (Go.Operand.tmp 29), type := 4, pos := "l13_journal.go:45", after := #[{ on := 2, ground := Go.Ground.data }, { on := 1, ground := Go.Ground.chain }], guard := none }) (v := .bool false) rfl (by kernel_rfl) (by kernel_rfl) (by kernel_rfl) (fun _ _ _ h => h) (Or.inl ⟨by rfl, by intro w hSw; (try dsimp only at hSw); go_simp⟩) (by assumption) ?_
    simp only [Act.put, List.setIfInBounds_toArray, List.set_cons_zero, List.set_cons_succ]
    refine wpAnyH_take (i := 4) (oi := { dst := some 31, op := Go.Op.move (Go.Operand.tmp 5), type := 9, pos := "l13_journal.go:45", after := #[{ on := 3, ground := Go.Ground.guard }], guard := some (3, false) }) (v := .string sx) rfl (by kernel_rfl) (by kernel_rfl) (by kernel_rfl) (fun _ _ _ h => h) (Or.inl ⟨by rfl, by intro w hSw; (try dsimp only at hSw); go_simp⟩) (by assumption) ?_
    simp only [Act.put, List.setIfInBounds_toArray, List.set_cons_zero, List.set_cons_succ]
    refine wpAnyH_take (i := 7) (oi := { dst := some 34, op := Go.Op.move (Go.Operand.tmp 0), type := 31, pos := "l13_journal.go:45", after := #[{ on := 3, ground := Go.Ground.guard }], guard := some (3, false) }) (v := .slice (some ⟨g, o, none⟩) d.length c) rfl (by kernel_rfl) (by kernel_rfl) (by kernel_rfl) (fun _ _ _ h => h) (Or.inl ⟨by rfl, by intro w hSw; (try dsimp only at hSw); go_simp⟩) (by assumption) ?_
    simp only [Act.put, List.setIfInBounds_toArray, List.set_cons_zero, List.set_cons_succ]
    refine wpAnyH_take (i := 8) (oi := { dst := some 35, op := Go.Op.move (Go.Operand.tmp 4), type := 3, pos := "l13_journal.go:45", after := #[{ on := 3, ground := Go.Ground.guard }], guard := some (3, false) }) (v := .int .i64 ((m : Int) + 3)) rfl (by kernel_rfl) (by kernel_rfl) (by kernel_rfl) (fun _ _ _ h => h) (Or.inl ⟨by rfl, by intro w hSw; (try dsimp only at hSw); go_simp⟩) (by assumption) ?_
    simp only [Act.put, List.setIfInBounds_toArray, List.set_cons_zero, List.set_cons_succ]
    refine wpAnyH_take (i := 9) (oi := { dst := some 36, op := Go.Op.slice 31 (Go.Operand.tmp 34) none (some (Go.Operand.tmp 35)) none, type := 31, pos := "l13_journal.go:45", after := #[{ on := 7, ground := Go.Ground.data }, { on := 8, ground := Go.Ground.data }, { on := 3, ground := Go.Ground.guard }], guard := some (3, false) }) (v := .slice (some ⟨g, o, none⟩) (m + 3) c) rfl (by kernel_rfl) (by kernel_rfl) (by kernel_rfl) (fun _ _ _ h => h) (Or.inl ⟨by rfl, by intro w hSw; (try dsimp only at hSw); go_simp⟩) (by assumption) ?_
    simp only [Act.put, List.setIfInBounds_toArray, List.set_cons_zero, List.set_cons_succ]
    refine wpAnyH_take (i := 10) (oi := { dst := some 37, op := Go.Op.convert 31 9 (Go.Operand.tmp 36), type := 9, pos := "l13_journal.go:45", after := #[{ on := 9, ground := Go.Ground.data }, { on := 3, ground := Go.Ground.guard }], guard := some (3, false) }) (v := .string (str (d.take (m + 3)))) rfl (by kernel_rfl) (by kernel_rfl) (by kernel_rfl) (fun _ _ _ h => h) (Or.inl ⟨by rfl, by intro w hSw; (try dsimp only at hSw); have hcw := hcv2 _ hSw; go_simp⟩) (by assumption) ?_
    simp only [Act.put, List.setIfInBounds_toArray, List.set_cons_zero, List.set_cons_succ]
    refine wpAnyH_ready (rs := [5]) (by kernel_rfl) (by simp) ?_
    refine AllReadyH.cons (o := { dst := some 32, op := Go.Op.call { callee := Go.Callee.value (Go.Operand.func 228), args := #[Go.Operand.tmp 31], argTypes := #[9] }, type := 31, pos := "l13_journal.go:45", after := #[{ on := 4, ground := Go.Ground.data }, { on := 3, ground := Go.Ground.chain }, { on := 3, ground := Go.Ground.guard }], guard := some (3, false) }) rfl (fun K hK => ?_) AllReadyH.nil
    go_simp
    go_at_call 228
    refine (HP.out _).mono ?_
    rintro z w3 ⟨a3, k3, rfl, ho3, hb3⟩
    have hbb : Below w.heap.size w w3 := hbd.trans (hb3.mono hbd.size)
    have hcw3 := ho3.at.str
    clear hb3 ho3
    go_wp2_with fail
    refine hK.out _ _ hbb (fun hHeld => ?_)
    clear hK K
    try simp only [Act.put, List.setIfInBounds_toArray, List.set_cons_zero, List.set_cons_succ]
    refine wpAnyH_ready (rs := [6]) (by kernel_rfl) (by simp) ?_
    refine AllReadyH.cons (o := { dst := some 33, op := Go.Op.convert 31 9 (Go.Operand.tmp 32), type := 9, pos := "l13_journal.go:45", after := #[{ on := 5, ground := Go.Ground.data }, { on := 3, ground := Go.Ground.guard }], guard := some (3, false) }) rfl (fun K hK => ?_) AllReadyH.nil
    go_simp
    refine hK.out _ _ hbb (fun hHeld => ?_)
    clear hK K
    try simp only [Act.put, List.setIfInBounds_toArray, List.set_cons_zero, List.set_cons_succ]
    by_cases hx : p = d.take (m + 3)
    · have hcmp : ((str p).toList == (str (d.take (m + 3))).toList) = true := by rw [str_eq]; exact decide_eq_true hx
      have HX := hid (HAS.out.1 ⟨HZ.out, hx⟩)
      clear hx
      refine wpAnyH_take (i := 11) (oi := { dst := some 38, op := Go.Op.binOp Go.BinOp.neq 9 (Go.Operand.tmp 33) (Go.Operand.tmp 37) 9, type := 4, pos := "l13_journal.go:45", after := #[{ on := 6, ground := Go.Ground.data }, { on := 10, ground := Go.Ground.data }, { on := 3, ground := Go.Ground.guard }], guard := some (3, false) }) (v := .bool false) rfl (by kernel_rfl) (by kernel_rfl) (by kernel_rfl) (fun _ _ _ h => h) (Or.inl ⟨by rfl, by intro w hSw; (try dsimp only at hSw); go_simp⟩) (by assumption) ?_
      simp only [Act.put, List.setIfInBounds_toArray, List.set_cons_zero, List.set_cons_succ]
      refine wpAnyH_take (i := 12) (oi := { dst := some 39, op := Go.Op.pick (Go.Operand.tmp 30) (Go.Operand.const (Go.Value.bool true)) (Go.Operand.tmp 38), type := 4, pos := "l13_journal.go:45", after := #[{ on := 3, ground := Go.Ground.data }, { on := 11, ground := Go.Ground.data }], guard := none }) (v := .bool false) rfl (by kernel_rfl) (by kernel_rfl) (by kernel_rfl) (fun _ _ _ h => h) (Or.inl ⟨by rfl, by intro w hSw; (try dsimp only at hSw); go_simp⟩) (by assumption) ?_
      simp only [Act.put, List.setIfInBounds_toArray, List.set_cons_zero, List.set_cons_succ]
      refine wpAnyH_done (by kernel_rfl) ?_ _
      go_wp2
      go_ret2
      exact ⟨by rw [hr.out, hn.out, HX.out.1, HX.out.2, ← hsx.out]; rfl, hbb⟩
    · have hcmp : ((str p).toList == (str (d.take (m + 3))).toList) = false := by rw [str_eq]; exact decide_eq_false hx
      have HX := hid (HAS.out.2 (fun h => hx h.2))
      clear hx
      refine wpAnyH_take (i := 11) (oi := { dst := some 38, op := Go.Op.binOp Go.BinOp.neq 9 (Go.Operand.tmp 33) (Go.Operand.tmp 37) 9, type := 4, pos := "l13_journal.go:45", after := #[{ on := 6, ground := Go.Ground.data }, { on := 10, ground := Go.Ground.data }, { on := 3, ground := Go.Ground.guard }], guard := some (3, false) }) (v := .bool true) rfl (by kernel_rfl) (by kernel_rfl) (by kernel_rfl) (fun _ _ _ h => h) (Or.inl ⟨by rfl, by intro w hSw; (try dsimp only at hSw); go_simp⟩) (by assumption) ?_
      simp only [Act.put, List.setIfInBounds_toArray, List.set_cons_zero, List.set_cons_succ]
      refine wpAnyH_take (i := 12) (oi := { dst := some 39, op := Go.Op.pick (Go.Operand.tmp 30) (Go.Operand.const (Go.Value.bool true)) (Go.Operand.tmp 38), type := 4, pos := "l13_journal.go:45", after := #[{ on := 3, ground := Go.Ground.data }, { on := 11, ground := Go.Ground.data }], guard := none }) (v := .bool true) rfl (by kernel_rfl) (by kernel_rfl) (by kernel_rfl) (fun _ _ _ h => h) (Or.inl ⟨by rfl, by intro w hSw; (try dsimp only at hSw); go_simp⟩) (by assumption) ?_
      simp only [Act.put, List.setIfInBounds_toArray, List.set_cons_zero, List.set_cons_succ]
      refine wpAnyH_done (by kernel_rfl) ?_ _
      go_wp2
      go_ret2
      exact ⟨by rw [hr.out, hn.out, HX.out.1, HX.out.2]; rfl, hbb⟩
  · have b1 : (f != 0) = true := by simpa using hf
    have HX := hid (HAS.out.2 (fun h => hf h.1))
    clear hf HP0
    refine wp_region_held_drew (S := fun wx => Below w.heap.size w wx) (by kernel_rfl) hbd (fun hHeld => ?_)
    refine wpAnyH_take (i := 0) (oi := { dst := some 27, op := Go.Op.move (Go.Operand.tmp 5), type := 9, pos := "l13_journal.go:45", after := #[], guard := none }) (v := .string sx) rfl (by kernel_rfl) (by kernel_rfl) (by kernel_rfl) (fun _ _ _ h => h) (Or.inl ⟨by rfl, by intro w hSw; (try dsimp only at hSw); go_simp⟩) (by assumption) ?_
    simp only [Act.put, List.setIfInBounds_toArray, List.set_cons_zero, List.set_cons_succ]
    refine wpAnyH_ready (rs := [1]) (by kernel_rfl) (by simp) ?_
    refine AllReadyH.cons (o := { dst := some 28, op := Go.Op.call { callee := Go.Callee.value (Go.Operand.func 227), args := #[Go.Operand.tmp 27], argTypes := #[9] }, type := 2, pos := "l13_journal.go:45", after := #[{ on := 0, ground := Go.Ground.data }], guard := none }) rfl (fun K hK => ?_) AllReadyH.nil
    go_simp
    go_at_call 227
    refine (HF.out _).mono ?_
    rintro z w3 ⟨rfl, hw3⟩
    replace hw3 := hw3.symm
    subst hw3
    go_wp2_with fail
    refine hK.out _ _ hbd (fun hHeld => ?_)
    clear hK K
    try simp only [Act.put, List.setIfInBounds_toArray, List.set_cons_zero, List.set_cons_succ]
    refine wpAnyH_take (i := 2) (oi := { dst := some 29, op := Go.Op.binOp Go.BinOp.neq 2 (Go.Operand.tmp 28) (Go.Operand.const (Go.Value.int Go.IntKind.i64 0)) 2, type := 4, pos := "l13_journal.go:45", after := #[{ on := 1, ground := Go.Ground.data }], guard := none }) (v := .bool true) rfl (by kernel_rfl) (by kernel_rfl) (by kernel_rfl) (fun _ _ _ h => h) (Or.inl ⟨by rfl, by intro w hSw; (try dsimp only at hSw); go_simp⟩) (by assumption) ?_
    simp only [Act.put, List.setIfInBounds_toArray, List.set_cons_zero, List.set_cons_succ]
    refine wpAnyH_take (i := 3) (oi := { dst := some 30, op := Go.Op.move (Go.Operand.tmp 29), type := 4, pos := "l13_journal.go:45", after := #[{ on := 2, ground := Go.Ground.data }, { on := 1, ground := Go.Ground.chain }], guard := none }) (v := .bool true) rfl (by kernel_rfl) (by kernel_rfl) (by kernel_rfl) (fun _ _ _ h => h) (Or.inl ⟨by rfl, by intro w hSw; (try dsimp only at hSw); go_simp⟩) (by assumption) ?_
    simp only [Act.put, List.setIfInBounds_toArray, List.set_cons_zero, List.set_cons_succ]
    refine wpAnyH_take (i := 4) (oi := { dst := some 31, op := Go.Op.move (Go.Operand.tmp 5), type := 9, pos := "l13_journal.go:45", after := #[{ on := 3, ground := Go.Ground.guard }], guard := some (3, false) }) (v := undef) rfl (by kernel_rfl) (by kernel_rfl) (by kernel_rfl) (fun _ _ _ h => h) (Or.inr ⟨by rfl, rfl⟩) (by assumption) ?_
    simp only [Act.put, List.setIfInBounds_toArray, List.set_cons_zero, List.set_cons_succ]
    refine wpAnyH_take (i := 5) (oi := { dst := some 32, op := Go.Op.call { callee := Go.Callee.value (Go.Operand.func 228), args := #[Go.Operand.tmp 31], argTypes := #[9] }, type := 31, pos := "l13_journal.go:45", after := #[{ on := 4, ground := Go.Ground.data }, { on := 3, ground := Go.Ground.chain }, { on := 3, ground := Go.Ground.guard }], guard := some (3, false) }) (v := undef) rfl (by kernel_rfl) (by kernel_rfl) (by kernel_rfl) (fun _ _ _ h => h) (Or.inr ⟨by rfl, rfl⟩) (by assumption) ?_
    simp only [Act.put, List.setIfInBounds_toArray, List.set_cons_zero, List.set_cons_succ]
    refine wpAnyH_take (i := 6) (oi := { dst := some 33, op := Go.Op.convert 31 9 (Go.Operand.tmp 32), type := 9, pos := "l13_journal.go:45", after := #[{ on := 5, ground := Go.Ground.data }, { on := 3, ground := Go.Ground.guard }], guard := some (3, false) }) (v := undef) rfl (by kernel_rfl) (by kernel_rfl) (by kernel_rfl) (fun _ _ _ h => h) (Or.inr ⟨by rfl, rfl⟩) (by assumption) ?_
    simp only [Act.put, List.setIfInBounds_toArray, List.set_cons_zero, List.set_cons_succ]
    refine wpAnyH_take (i := 7) (oi := { dst := some 34, op := Go.Op.move (Go.Operand.tmp 0), type := 31, pos := "l13_journal.go:45", after := #[{ on := 3, ground := Go.Ground.guard }], guard := some (3, false) }) (v := undef) rfl (by kernel_rfl) (by kernel_rfl) (by kernel_rfl) (fun _ _ _ h => h) (Or.inr ⟨by rfl, rfl⟩) (by assumption) ?_
    simp only [Act.put, List.setIfInBounds_toArray, List.set_cons_zero, List.set_cons_succ]
    refine wpAnyH_take (i := 8) (oi := { dst := some 35, op := Go.Op.move (Go.Operand.tmp 4), type := 3, pos := "l13_journal.go:45", after := #[{ on := 3, ground := Go.Ground.guard }], guard := some (3, false) }) (v := undef) rfl (by kernel_rfl) (by kernel_rfl) (by kernel_rfl) (fun _ _ _ h => h) (Or.inr ⟨by rfl, rfl⟩) (by assumption) ?_
    simp only [Act.put, List.setIfInBounds_toArray, List.set_cons_zero, List.set_cons_succ]
    refine wpAnyH_take (i := 9) (oi := { dst := some 36, op := Go.Op.slice 31 (Go.Operand.tmp 34) none (some (Go.Operand.tmp 35)) none, type := 31, pos := "l13_journal.go:45", after := #[{ on := 7, ground := Go.Ground.data }, { on := 8, ground := Go.Ground.data }, { on := 3, ground := Go.Ground.guard }], guard := some (3, false) }) (v := undef) rfl (by kernel_rfl) (by kernel_rfl) (by kernel_rfl) (fun _ _ _ h => h) (Or.inr ⟨by rfl, rfl⟩) (by assumption) ?_
    simp only [Act.put, List.setIfInBounds_toArray, List.set_cons_zero, List.set_cons_succ]
    refine wpAnyH_take (i := 10) (oi := { dst := some 37, op := Go.Op.convert 31 9 (Go.Operand.tmp 36), type := 9, pos := "l13_journal.go:45", after := #[{ on := 9, ground := Go.Ground.data }, { on := 3, ground := Go.Ground.guard }], guard := some (3, false) }) (v := undef) rfl (by kernel_rfl) (by kernel_rfl) (by kernel_rfl) (fun _ _ _ h => h) (Or.inr ⟨by rfl, rfl⟩) (by assumption) ?_
    simp only [Act.put, List.setIfInBounds_toArray, List.set_cons_zero, List.set_cons_succ]
    refine wpAnyH_take (i := 11) (oi := { dst := some 38, op := Go.Op.binOp Go.BinOp.neq 9 (Go.Operand.tmp 33) (Go.Operand.tmp 37) 9, type := 4, pos := "l13_journal.go:45", after := #[{ on := 6, ground := Go.Ground.data }, { on := 10, ground := Go.Ground.data }, { on := 3, ground := Go.Ground.guard }], guard := some (3, false) }) (v := undef) rfl (by kernel_rfl) (by kernel_rfl) (by kernel_rfl) (fun _ _ _ h => h) (Or.inr ⟨by rfl, rfl⟩) (by assumption) ?_
    simp only [Act.put, List.setIfInBounds_toArray, List.set_cons_zero, List.set_cons_succ]
    refine wpAnyH_take (i := 12) (oi := { dst := some 39, op := Go.Op.pick (Go.Operand.tmp 30) (Go.Operand.const (Go.Value.bool true)) (Go.Operand.tmp 38), type := 4, pos := "l13_journal.go:45", after := #[{ on := 3, ground := Go.Ground.data }, { on := 11, ground := Go.Ground.data }], guard := none }) (v := .bool true) rfl (by kernel_rfl) (by kernel_rfl) (by kernel_rfl) (fun _ _ _ h => h) (Or.inl ⟨by rfl, by intro w hSw; (try dsimp only at hSw); go_simp⟩) (by assumption) ?_
    simp only [Act.put, List.setIfInBounds_toArray, List.set_cons_zero, List.set_cons_succ]
    refine wpAnyH_done (by kernel_rfl) ?_ _
    go_wp2
    go_ret2
    exact ⟨by rw [hr.out, hn.out, HX.out.1, HX.out.2]; rfl, hbd⟩
end Jn
end Go.Proofs.YtccklgopcjilcaaGreatDoor
