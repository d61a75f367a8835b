/- The line at the beginning of bytes, as the program and as the specification find it. No condition. -/
import Derived.Test.YtiliahibnhfhoaaJnE
import Derived.Deep.QuietTactic
import Derived.BigQuiet
namespace Go.Proofs.Ytiliahibnhfhoaa
open Go.RowKit
set_option linter.unusedVariables false
namespace Jn
theorem below_drewN' {B : Nat} {a w : World} (h : Below B a w) (n : Nat) : Below B a (w.drewN n) := ⟨h.os, h.tape, h.output, h.size, h.block⟩
theorem str_eq (a b : List UInt8) : ((str a).toList == (str b).toList) = decide (a = b) := by
  unfold str
  rw [ByteArray.toList_mk, ByteArray.toList_mk]
  by_cases h : a = b <;> simp [h]
theorem implEqual (B : Nat) (d p : List UInt8) (a1 a2 : Option Addr) (c1 c2 : Nat) (w : World) (h1 : At w B (.slice a1 d.length c1) d) (h2 : At w B (.slice a2 p.length c2) p) :
    Calls Try.prog 86 #[.slice a1 d.length c1, .slice a2 p.length c2] w fun e w' => e = .returned (.bool (decide (d = p))) ∧ w' = w := by
  have e1 := h1.str
  have e2 := h2.str
  clear h1 h2
  go_enter Try.func86, Try.ntmps86
  go_wp2
  go_ret
  exact ⟨by rw [← str_eq]; rfl, rfl⟩
theorem implPrefix (B : Nat) (d p : List UInt8) (a1 a2 : Option Addr) (c1 c2 : Nat) (w : World) (h1 : At w B (.slice a1 d.length c1) d) (h2 : At w B (.slice a2 p.length c2) p) :
    Calls Try.prog 85 #[.slice a1 d.length c1, .slice a2 p.length c2] w fun e w' => e = .returned (.bool (decide (p.length ≤ d.length) && decide (d.take p.length = p))) ∧ w' = w := by
  by_cases hl : p.length ≤ d.length
  · have q1 : (p.length : Int) ≤ (d.length : Int) := by omega
    obtain ⟨a', hsl, hat, rfl⟩ := h1.to p.length hl
    have hlen : (d.take p.length).length = p.length := by rw [List.length_take]; omega
    have HE := hid (implEqual B (d.take p.length) p a' a2 c1 c2 w (by rw [hlen]; exact hat) h2)
    rw [hlen] at HE
    have HR : Hid ((decide (p.length ≤ d.length) && decide (d.take p.length = p)) = decide (d.take p.length = p)) := hid (by simp [hl])
    rw [HR.out]
    generalize decide (d.take p.length = p) = x at *
    clear h1 h2 hat hlen hl
    go_enter Try.func85, Try.ntmps85
    go_wp2_with fail
    refine HE.out.mono ?_
    rintro e w1 ⟨rfl, hw⟩
    replace hw := hw.symm
    subst hw
    go_wp2
    go_ret
    exact ⟨rfl, rfl⟩
  · have q1 : ¬ (p.length : Int) ≤ (d.length : Int) := by omega
    have HR : Hid ((decide (p.length ≤ d.length) && decide (d.take p.length = p)) = false) := hid (by simp [hl])
    rw [HR.out]
    clear h1 h2 hl
    go_enter Try.func85, Try.ntmps85
    go_wp2
    go_ret
    exact ⟨rfl, rfl⟩
/-- The answer: the line, and how many bytes it takes. -/
def OPost (d : List UInt8) (w : World) (e : Ending) (w' : World) : Prop := e = .returned (.tuple #[.string (str (oneS d)), .int .i64 (oneN d : Int)]) ∧ Below w.heap.size w w'
theorem one_short {d : List UInt8} (h : d.length < lenN d + 3) : oneN d = 0 ∧ oneS d = [] := oneN_zero (by unfold oneB; rw [decide_eq_false (by omega)]; rfl)
theorem len_nil {d : List UInt8} (h : d.length = 0) : d.length < lenN d + 3 := by
  omega
theorem lenN_get {d : List UInt8} (h : 0 < d.length) : lenN d = d[0].toNat := by
  cases d with
  | nil => simp at h
  | cons x xs => rfl
theorem lenN_lt (d : List UInt8) : lenN d < 256 := by
  unfold lenN
  cases d with
  | nil => decide
  | cons x xs => exact x.toNat_lt
/-- What the program asks of the line there: a code, and whether its bytes stand there. -/
theorem one_ask {d : List UInt8} (h : lenN d + 1 ≤ d.length) : (faultC (oneL d) = 0 ∧ ((packR (oneL d)).length ≤ d.length ∧ d.take (packR (oneL d)).length = packR (oneL d)) → oneN d = (packR (oneL d)).length ∧ oneS d = oneL d) ∧
    (¬ (faultC (oneL d) = 0 ∧ ((packR (oneL d)).length ≤ d.length ∧ d.take (packR (oneL d)).length = packR (oneL d))) → oneN d = 0 ∧ oneS d = []) := by
  have hlo : (oneL d).length = lenN d := by unfold oneL; rw [List.length_take, List.length_drop]; omega
  constructor
  · rintro ⟨h1, h2, h3⟩
    rw [packR_ok h1, pack_len, hlo] at h2 h3 ⊢
    have hb : oneB d = true := by
      unfold oneB
      rw [decide_eq_true h2, decide_eq_true h1, decide_eq_true h3.symm]
      rfl
    exact oneN_pos hb
  · intro hn
    refine oneN_zero ?_
    cases hb : oneB d with
    | false => rfl
    | true =>
      obtain ⟨h1, h2, h3⟩ := of_oneB hb
      refine absurd ⟨h2, ?_⟩ hn
      rw [packR_ok h2, pack_len, hlo]
      exact ⟨h1, h3.symm⟩
set_option maxRecDepth 100000 in
set_option maxHeartbeats 4000000 in
theorem implAhead (B : Nat) (d : List UInt8) (v : Value) (w : World) (hd : d.length ≤ 1048576) (hB : B ≤ w.heap.size) (ha : At w B v d) : Calls Try.prog 81 #[v] w (OPost d w) := by
  obtain ⟨a, c, rfl, hc⟩ := ha.slice
  have HA := hid ha
  clear ha
  obtain ⟨r, hr⟩ : ∃ r, Hid (r = oneS d) := ⟨_, hid rfl⟩
  obtain ⟨n, hn⟩ : ∃ n, Hid (n = oneN d) := ⟨_, hid rfl⟩
  unfold OPost
  rw [← hr.out, ← hn.out]
  by_cases h0 : d.length = 0
  · have q1 : ((d.length : Int) == 0) = true := beq_iff_eq.2 (by omega)
    have HX := hid (one_short (d := d) (by omega))
    clear h0
    go_enter Try.func81, Try.ntmps81
    go_wp2
    go_ret2
    exact ⟨by rw [hr.out, hn.out, HX.out.1, HX.out.2]; rfl, Below.refl _ _⟩
  obtain ⟨g, o, rfl, hg, hcell⟩ := HA.out.at (i := 0) (by omega)
  have hl0 := lenN_get (d := d) (by omega)
  have hlt := lenN_lt d
  have q1 : ((d.length : Int) == 0) = false := beq_eq_false_iff_ne.2 (by omega)
  unfold vb at hcell
  rw [← hl0, Nat.add_zero] at hcell
  have HL0 := hid hl0
  clear hl0
  by_cases h1 : d.length < lenN d + 1
  · have HX := hid (one_short (d := d) (by omega))
    have q2 : (d.length : Int) < 1 + (lenN d : Int) := by omega
    clear HL0
    generalize lenN d = m at *
    go_enter Try.func81, Try.ntmps81
    go_wp2
    go_ret2
    exact ⟨by rw [hr.out, hn.out, HX.out.1, HX.out.2]; rfl, Below.refl _ _⟩
  have hHA := HA.out
  obtain ⟨a', c', hsl, hat⟩ := hHA.mid 1 (lenN d + 1) (by omega) (by omega)
  rw [Nat.add_sub_cancel] at hsl hat
  have hlo : (oneL d).length = lenN d := by unfold oneL; rw [List.length_take, List.length_drop]; omega
  have hcv := fun w' (hb : Below w.heap.size w w') => (hat.below hb hB).str
  have HP := hid (fun w' => implPackLine (oneL d) w' (by omega))
  have HAS := hid (one_ask (d := d) (by omega))
  have hpl := packR_len (oneL d)
  change ∀ w', _ → Sem.run Try.prog (convert 24 9 (.slice a' (lenN d) c')) w' = .ok (.string (str (oneL d))) w' at hcv
  have hcv0 := hcv w (Below.refl _ _)
  generalize oneL d = x at *
  obtain ⟨sx, hsx⟩ : ∃ sx, Hid (sx = str x) := ⟨_, hid rfl⟩
  rw [← hsx.out] at hcv0 HP
  clear hcv
  generalize packR x = p at *
  generalize faultC x = f at *
  have q2 : ¬ (d.length : Int) < 1 + (lenN d : Int) := by omega
  have hsl2 : ∀ w' : World, Sem.run Try.prog (Instr.slice 24 (.slice (some ⟨g, o, none⟩) d.length c) (some (.int .i64 1)) (some (.int .i64 (1 + (lenN d : Int)))) none) w' = .ok (.slice a' (lenN d) c') w' := fun w' => by
    have := hsl w'
    rw [show ((lenN d + 1 : Nat) : Int) = 1 + (lenN d : Int) by omega] at this
    exact this
  clear HL0 hsl hat hlo h1 h0
  generalize lenN d = m at *
  go_enter Try.func81, Try.ntmps81
  go_wp2_with fail
  refine (HP.out _).mono ?_
  rintro e w1 ⟨a1, k1, rfl, ho, hb1⟩
  have HPF := hid (implPrefix (w1.heap.size + 1) d p (some ⟨g, o, none⟩) a1 c k1 (w1.alloc (.cells #[.int .i64 f, .slice a1 p.length k1] 26))
    ((HA.out.below (hb1.alloc hb1.size _) hB).mono (by have := hb1.size; omega)) ((ho.at.below ((Below.refl _ w1).alloc (Nat.le_refl _) _) (Nat.le_refl _)).mono (by omega)))
  have B1 := hid (hb1.alloc hb1.size (.cells #[.int .i64 f, .slice a1 p.length k1] 26))
  clear ho hb1
  by_cases hf : f = 0
  · have b1 : (f != 0) = false := by simp [hf]
    cases hx : (decide (p.length ≤ d.length) && decide (d.take p.length = p)) with
    | false =>
      have HX := hid (HAS.out.2 (fun h => by rw [decide_eq_true h.2.1, decide_eq_true h.2.2] at hx; cases hx))
      rw [hx] at HPF
      clear hf hx
      go_wp2_with fail
      refine HPF.out.mono ?_
      rintro e w2 ⟨rfl, hw⟩
      replace hw := hw.symm
      subst hw
      go_wp2
      go_ret2
      exact ⟨by rw [hr.out, hn.out, HX.out.1, HX.out.2]; rfl, B1.out⟩
    | true =>
      have HX := hid (HAS.out.1 ⟨hf, by rw [Bool.and_eq_true] at hx; exact ⟨of_decide_eq_true hx.1, of_decide_eq_true hx.2⟩⟩)
      rw [hx] at HPF
      clear hf hx
      go_wp2_with fail
      refine HPF.out.mono ?_
      rintro e w2 ⟨rfl, hw⟩
      replace hw := hw.symm
      subst hw
      go_wp2
      go_quiet (fail)
      go_wp2
      go_ret2
      exact ⟨by rw [hr.out, hn.out, HX.out.1, HX.out.2, ← hsx.out]; rfl, below_drewN' B1.out _⟩
  · have b1 : (f != 0) = true := by simpa using hf
    have HX := hid (HAS.out.2 (fun h => hf h.1))
    clear hf HPF
    go_wp2
    go_ret2
    exact ⟨by rw [hr.out, hn.out, HX.out.1, HX.out.2]; rfl, B1.out⟩
end Jn
end Go.Proofs.Ytiliahibnhfhoaa
