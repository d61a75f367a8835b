/- The program's values of terms: pairValue, termValue, EvalExpr. -/
import Derived.Test.YtpgbjpfpgbjbeaaGreatDoorJCh10
import Derived.Test.YtpgbjpfpgbjbeaaGreatDoorJCh29
import Derived.Test.YtpgbjpfpgbjbeaaGreatDoorJCh30
namespace Go.Proofs.YtpgbjpfpgbjbeaaGreatDoor
open Go.RowKit
set_option linter.unusedVariables false
namespace Ex
open Nd (NodeD)
set_option maxRecDepth 100000 in
set_option maxHeartbeats 400000 in
theorem implYes (b : Bool) (w : World) : Calls Tryz.prog 145 #[.bool b] w fun e w' => e = .returned (.int .i64 (bit b)) ∧ w' = w := by
  cases b
  · go_enter Tryz.func145, Tryz.ntmps145
    go_wp2
    go_ret
    exact ⟨rfl, rfl⟩
  · go_enter Tryz.func145, Tryz.ntmps145
    go_wp2
    go_ret
    exact ⟨rfl, rfl⟩
set_option maxRecDepth 100000 in
set_option maxHeartbeats 4000000 in
theorem implPair (k a b : Int) (w : World) (hk : 3 ≤ k ∧ k ≤ 9) (h1 : -1000000 ≤ a) (h2 : a ≤ 1000000) (h3 : -1000000 ≤ b) (h4 : b ≤ 1000000) (h9 : k = 9 → (a = 0 ∨ a = 1) ∧ (b = 0 ∨ b = 1)) :
    Calls Tryz.prog 144 #[.int .i64 k, .int .i64 a, .int .i64 b] w fun e w' => e = .returned (.tuple #[.int .i64 (oneVal k a b), .bool (oneOk k a b)]) ∧ w' = w := by
  obtain ⟨hm1, hm2⟩ := mul_le h1 h2 h3 h4
  obtain ⟨hd1, hd2⟩ := div_le (b := b) h1 h2
  have hkk : k = 3 ∨ k = 4 ∨ k = 5 ∨ k = 6 ∨ k = 7 ∨ k = 8 ∨ k = 9 := by omega
  clear hk
  rcases hkk with rfl | rfl | rfl | rfl | rfl | rfl | rfl
  · have HV : Hid (oneVal 3 a b = a + b) := hid (by first | rfl | (simp [oneVal]; done) | (simp [oneVal]; omega))
    have HW : Hid (oneOk 3 a b = inR (a + b) (-1000000) 1000000) := hid (by unfold oneOk; rw [HV.out]; first | rfl | simp [*])
    clear h9
    go_enter Tryz.func144, Tryz.ntmps144
    go_wp2_with (first | (go_at_call 72; refine (implBounded _ _).mono ?_; rintro e w1 ⟨rfl, rfl⟩) | (go_at_call 145; refine (implYes _ _).mono ?_; rintro e w1 ⟨rfl, rfl⟩))
    go_ret2
    exact ⟨by rw [HV.out, HW.out]; rfl, rfl⟩
  · have HV : Hid (oneVal 4 a b = a + -b) := hid (by first | rfl | (simp [oneVal]; done) | (simp [oneVal]; omega))
    have HW : Hid (oneOk 4 a b = inR (a + -b) (-1000000) 1000000) := hid (by unfold oneOk; rw [HV.out]; first | rfl | simp [*])
    clear h9
    go_enter Tryz.func144, Tryz.ntmps144
    go_wp2_with (first | (go_at_call 72; refine (implBounded _ _).mono ?_; rintro e w1 ⟨rfl, rfl⟩) | (go_at_call 145; refine (implYes _ _).mono ?_; rintro e w1 ⟨rfl, rfl⟩))
    go_ret2
    exact ⟨by rw [HV.out, HW.out]; rfl, rfl⟩
  · have HV : Hid (oneVal 5 a b = a * b) := hid (by first | rfl | (simp [oneVal]; done) | (simp [oneVal]; omega))
    have HW : Hid (oneOk 5 a b = inR (a * b) (-1000000) 1000000) := hid (by unfold oneOk; rw [HV.out]; first | rfl | simp [*])
    clear h9
    go_enter Tryz.func144, Tryz.ntmps144
    go_wp2_with (first | (go_at_call 72; refine (implBounded _ _).mono ?_; rintro e w1 ⟨rfl, rfl⟩) | (go_at_call 145; refine (implYes _ _).mono ?_; rintro e w1 ⟨rfl, rfl⟩))
    go_ret2
    exact ⟨by rw [HV.out, HW.out]; rfl, rfl⟩
  · clear h9
    by_cases hb : b = 0
    · have HV : Hid (oneVal 6 a b = 0) := hid (by simp [oneVal, hb])
      have HW : Hid (oneOk 6 a b = false) := hid (by simp [oneOk, hb])
      have tb : (b == 0) = true := beq_iff_eq.2 hb
      clear hb
      go_enter Tryz.func144, Tryz.ntmps144
      go_wp2_with (first | (go_at_call 72; refine (implBounded _ _).mono ?_; rintro e w1 ⟨rfl, rfl⟩) | (go_at_call 145; refine (implYes _ _).mono ?_; rintro e w1 ⟨rfl, rfl⟩))
      go_ret2
      exact ⟨by rw [HV.out, HW.out]; rfl, rfl⟩
    · have HV : Hid (oneVal 6 a b = a.tdiv b) := hid (by simp [oneVal, hb])
      have HW : Hid (oneOk 6 a b = inR (a.tdiv b) (-1000000) 1000000) := hid (by unfold oneOk; rw [HV.out]; simp [hb])
      have tb : (b == 0) = false := beq_eq_false_iff_ne.2 hb
      go_enter Tryz.func144, Tryz.ntmps144
      go_wp2_with (first | (go_at_call 72; refine (implBounded _ _).mono ?_; rintro e w1 ⟨rfl, rfl⟩) | (go_at_call 145; refine (implYes _ _).mono ?_; rintro e w1 ⟨rfl, rfl⟩))
      go_ret2
      exact ⟨by rw [HV.out, HW.out]; rfl, rfl⟩
  · clear h9
    by_cases q : a < b
    · have HV : Hid (oneVal 7 a b = 1) := hid (by simp [oneVal, bit, q])
      have HW : Hid (oneOk 7 a b = inR 1 (-1000000) 1000000) := hid (by unfold oneOk; rw [HV.out]; rfl)
      go_enter Tryz.func144, Tryz.ntmps144
      go_wp2_with (first | (go_at_call 72; refine (implBounded _ _).mono ?_; rintro e w1 ⟨rfl, rfl⟩) | (go_at_call 145; refine (implYes _ _).mono ?_; rintro e w1 ⟨rfl, rfl⟩))
      go_ret2
      exact ⟨by rw [HV.out, HW.out]; rfl, rfl⟩
    · have HV : Hid (oneVal 7 a b = 0) := hid (by simp [oneVal, bit, q])
      have HW : Hid (oneOk 7 a b = inR 0 (-1000000) 1000000) := hid (by unfold oneOk; rw [HV.out]; rfl)
      go_enter Tryz.func144, Tryz.ntmps144
      go_wp2_with (first | (go_at_call 72; refine (implBounded _ _).mono ?_; rintro e w1 ⟨rfl, rfl⟩) | (go_at_call 145; refine (implYes _ _).mono ?_; rintro e w1 ⟨rfl, rfl⟩))
      go_ret2
      exact ⟨by rw [HV.out, HW.out]; rfl, rfl⟩
  · clear h9
    cases q : (a == b)
    · have HV : Hid (oneVal 8 a b = 0) := hid (by simp only [oneVal, q]; rfl)
      have HW : Hid (oneOk 8 a b = inR 0 (-1000000) 1000000) := hid (by unfold oneOk; rw [HV.out]; rfl)
      go_enter Tryz.func144, Tryz.ntmps144
      go_wp2_with (first | (go_at_call 72; refine (implBounded _ _).mono ?_; rintro e w1 ⟨rfl, rfl⟩) | (go_at_call 145; refine (implYes _ _).mono ?_; rintro e w1 ⟨rfl, rfl⟩))
      go_ret2
      exact ⟨by rw [HV.out, HW.out]; rfl, rfl⟩
    · have HV : Hid (oneVal 8 a b = 1) := hid (by simp only [oneVal, q]; rfl)
      have HW : Hid (oneOk 8 a b = inR 1 (-1000000) 1000000) := hid (by unfold oneOk; rw [HV.out]; rfl)
      go_enter Tryz.func144, Tryz.ntmps144
      go_wp2_with (first | (go_at_call 72; refine (implBounded _ _).mono ?_; rintro e w1 ⟨rfl, rfl⟩) | (go_at_call 145; refine (implYes _ _).mono ?_; rintro e w1 ⟨rfl, rfl⟩))
      go_ret2
      exact ⟨by rw [HV.out, HW.out]; rfl, rfl⟩
  · obtain ⟨ha, hb⟩ := h9 rfl
    clear h9
    rcases ha with rfl | rfl
    · rcases hb with rfl | rfl
      · have HV : Hid (oneVal 9 0 0 = 0) := hid rfl
        have HW : Hid (oneOk 9 0 0 = inR 0 (-1000000) 1000000) := hid rfl
        go_enter Tryz.func144, Tryz.ntmps144
        go_wp2_with (first | (go_at_call 72; refine (implBounded _ _).mono ?_; rintro e w1 ⟨rfl, rfl⟩) | (go_at_call 145; refine (implYes _ _).mono ?_; rintro e w1 ⟨rfl, rfl⟩))
        go_ret2
        exact ⟨by rw [HV.out, HW.out]; rfl, rfl⟩
      · have HV : Hid (oneVal 9 0 1 = 0) := hid rfl
        have HW : Hid (oneOk 9 0 1 = inR 0 (-1000000) 1000000) := hid rfl
        go_enter Tryz.func144, Tryz.ntmps144
        go_wp2_with (first | (go_at_call 72; refine (implBounded _ _).mono ?_; rintro e w1 ⟨rfl, rfl⟩) | (go_at_call 145; refine (implYes _ _).mono ?_; rintro e w1 ⟨rfl, rfl⟩))
        go_ret2
        exact ⟨by rw [HV.out, HW.out]; rfl, rfl⟩
    · rcases hb with rfl | rfl
      · have HV : Hid (oneVal 9 1 0 = 0) := hid rfl
        have HW : Hid (oneOk 9 1 0 = inR 0 (-1000000) 1000000) := hid rfl
        go_enter Tryz.func144, Tryz.ntmps144
        go_wp2_with (first | (go_at_call 72; refine (implBounded _ _).mono ?_; rintro e w1 ⟨rfl, rfl⟩) | (go_at_call 145; refine (implYes _ _).mono ?_; rintro e w1 ⟨rfl, rfl⟩))
        go_ret2
        exact ⟨by rw [HV.out, HW.out]; rfl, rfl⟩
      · have HV : Hid (oneVal 9 1 1 = 1) := hid rfl
        have HW : Hid (oneOk 9 1 1 = inR 1 (-1000000) 1000000) := hid rfl
        go_enter Tryz.func144, Tryz.ntmps144
        go_wp2_with (first | (go_at_call 72; refine (implBounded _ _).mono ?_; rintro e w1 ⟨rfl, rfl⟩) | (go_at_call 145; refine (implYes _ _).mono ?_; rintro e w1 ⟨rfl, rfl⟩))
        go_ret2
        exact ⟨by rw [HV.out, HW.out]; rfl, rfl⟩
/-- What termValue answers of a term. -/
def okVal (t : Tm) (vars : List Int) (x : Int) : Prop := (t.good vars = true → x = t.ev vars ∧ -1000000 ≤ x ∧ x ≤ 1000000) ∧ (t.ty = 2 → x = 0 ∨ x = 1) ∧ -1000000000000 ≤ x ∧ x ≤ 1000000000000
theorem own_two {k : Int} (h : 7 ≤ k) : pairOwn k = 2 := by unfold pairOwn; rw [if_neg (by rw [inR_iff]; omega)]
theorem own_one {k : Int} (h : 3 ≤ k) (h2 : k < 7) : pairOwn k = 1 := by unfold pairOwn; rw [if_pos (inR_iff.2 (by omega))]
theorem one_bit {k a b : Int} (hk : k ≤ 9) (h7 : 7 ≤ k) (h9 : k = 9 → (a = 0 ∨ a = 1) ∧ (b = 0 ∨ b = 1)) : oneVal k a b = 0 ∨ oneVal k a b = 1 := by
  unfold oneVal
  rw [if_neg (by omega), if_neg (by omega), if_neg (by omega), if_neg (by omega)]
  by_cases c7 : k = 7
  · rw [if_pos c7]; exact bit_in _
  · rw [if_neg c7]
    by_cases c8 : k = 8
    · rw [if_pos c8]; exact bit_in _
    · rw [if_neg c8, if_pos (by omega)]
      obtain ⟨x, y⟩ := h9 (by omega)
      rcases x with rfl | rfl <;> rcases y with rfl | rfl <;> simp
theorem one_in {k a b : Int} (hk : 3 ≤ k) (hk9 : k ≤ 9) (h1 : -1000000 ≤ a) (h2 : a ≤ 1000000) (h3 : -1000000 ≤ b) (h4 : b ≤ 1000000) (h9 : k = 9 → (a = 0 ∨ a = 1) ∧ (b = 0 ∨ b = 1)) : -1000000000000 ≤ oneVal k a b ∧ oneVal k a b ≤ 1000000000000 := by
  obtain ⟨hm1, hm2⟩ := mul_le h1 h2 h3 h4
  obtain ⟨hd1, hd2⟩ := div_le (b := b) h1 h2
  by_cases h7 : 7 ≤ k
  · have := one_bit hk9 h7 h9; omega
  · unfold oneVal
    by_cases c3 : k = 3
    · rw [if_pos c3]; omega
    · rw [if_neg c3]
      by_cases c4 : k = 4
      · rw [if_pos c4]; omega
      · rw [if_neg c4]
        by_cases c5 : k = 5
        · rw [if_pos c5]; omega
        · rw [if_neg c5, if_pos (by omega)]
          split <;> omega
set_option maxRecDepth 100000 in
set_option maxHeartbeats 4000000 in
theorem implTermValue (vars : List Int) (v2 : Value) (hv : vFault vars = 0) (B2 : Nat) : ∀ (t : Tm) (w : World), t.ok → t.fit = true → Nu.At w B2 v2 vars →
    Calls Tryz.prog 140 #[t.val, v2] w fun e w' => (∃ x, e = .returned (.tuple #[.int .i64 x, .bool (t.good vars)]) ∧ okVal t vars x) ∧ Below w.heap.size w w'
  | ⟨[], false, n⟩, w, hok, hfit, ha => by
    have a1 := asCC
    obtain ⟨a, cap, rfl⟩ := ha.slice
    have HX : Hid (okVal (.const n) vars n) := hid ⟨fun _ => ⟨rfl, by have := hok.1; omega, by have := hok.2; omega⟩, fun h => by simp [Tm.ty] at h, by have := hok.1; omega, by have := hok.2; omega⟩
    clear ha hok hfit hv
    change Calls Tryz.prog 140 #[.iface 171 (.int .i64 n), .slice a vars.length cap] w fun e w' => (∃ x, e = .returned (.tuple #[.int .i64 x, .bool true]) ∧ okVal (.const n) vars x) ∧ Below w.heap.size w w'
    go_enter Tryz.func140, Tryz.ntmps140
    go_wp2
    go_ret2
    exact ⟨⟨n, rfl, HX.out⟩, Below.refl _ _⟩
  | ⟨[], true, n⟩, w, hok, hfit, ha => by
    have a1 := asVC
    have a2 := asVV
    obtain ⟨h4, hall⟩ := of_v hv
    have hn0 : 0 ≤ n := hok.1
    have hn3 : n ≤ 3 := hok.2
    obtain ⟨j, rfl⟩ : ∃ j : Nat, n = (j : Int) := ⟨n.toNat, by omega⟩
    have hlt : j < vars.length := by omega
    have hin := inR_iff.1 (hall j hlt)
    have HX : Hid (okVal (.var (j : Int)) vars vars[j]) := hid ⟨fun _ => ⟨by simp [Tm.ev, hlt], hin.1, hin.2⟩, fun h => by simp [Tm.ty] at h, by omega, by omega⟩
    obtain ⟨a, cap, rfl⟩ := ha.slice
    obtain ⟨g, o, rfl, hg, c0⟩ := ha.at hlt
    have q1 : (j : Int) < (vars.length : Int) := by omega
    clear ha hok hfit hv hin hall hn0 hn3 h4
    change Calls Tryz.prog 140 #[.iface 172 (.int .i64 (j : Int)), .slice (some ⟨g, o, none⟩) vars.length cap] w fun e w' => (∃ x, e = .returned (.tuple #[.int .i64 x, .bool true]) ∧ okVal (.var (j : Int)) vars x) ∧ Below w.heap.size w w'
    go_enter Tryz.func140, Tryz.ntmps140
    go_wp2
    go_ret2
    exact ⟨⟨vars[j], rfl, HX.out⟩, Below.refl _ _⟩
  | ⟨[t], _, _⟩, w, hok, hfit, ha => by
    obtain ⟨hok, rfl, rfl⟩ := hok
    have a1 := asNC
    have a2 := asNV
    have a3 := asNN
    simp only [Tm.fit, Bool.and_eq_true, beq_iff_eq] at hfit
    have hb0 : Below w.heap.size w (w.alloc (.cells #[t.val] 175)) := (Below.refl _ w).alloc (Nat.le_refl _) _
    have IH := hid (implTermValue vars v2 hv B2 t (w.alloc (.cells #[t.val] 175)) hok hfit.1 (ha.below hb0))
    have HTY := hid hfit.2
    have HX : Hid (∀ x, okVal t vars x → okVal (.not t) vars (1 - x)) := hid (fun x hx => by
      have h01 := hx.2.1 hfit.2
      exact ⟨fun hg => ⟨by rw [(hx.1 hg).1]; rfl, by omega, by omega⟩, fun _ => by omega, by omega, by omega⟩)
    obtain ⟨a, cap, rfl⟩ := ha.slice
    change Calls Tryz.prog 140 #[.iface 175 (.agg #[t.val]), .slice a vars.length cap] w fun e w' => (∃ x, e = .returned (.tuple #[.int .i64 x, .bool (t.good vars)]) ∧ okVal (.not t) vars x) ∧ Below w.heap.size w w'
    obtain ⟨ty1, v1, hv1⟩ := t.val_if
    rw [hv1] at IH hb0 ⊢
    clear hv1 hok hfit ha hv
    have HB := hid hb0
    clear hb0
    go_enter Tryz.func140, Tryz.ntmps140
    go_wp2_with fail
    refine IH.out.mono ?_
    rintro e w1 ⟨⟨x, rfl, hx⟩, hb1⟩
    have hx1 := hx.2.2.1
    have hx2 := hx.2.2.2
    have HXX := hid (HX.out x hx)
    clear hx IH
    go_wp2
    go_ret2
    exact ⟨⟨1 - x, rfl, HXX.out⟩, HB.out.trans (hb1.mono HB.out.size)⟩
  | ⟨l :: r :: _, _, k⟩, w, hok, hfit, ha => by
    obtain ⟨hok, rfl, rfl⟩ := hok
    have a1 := asPC
    have a2 := asPV
    have a3 := asPN
    have a4 := asPP
    simp only [Tm.fit, Bool.and_eq_true, beq_iff_eq] at hfit
    have hb0 : Below w.heap.size w (w.alloc (.cells #[.int .i64 k, l.val, r.val] 177)) := (Below.refl _ w).alloc (Nat.le_refl _) _
    have hsz : (w.alloc (.cells #[.int .i64 k, l.val, r.val] 177)).heap.size = w.heap.size + 1 := by simp
    have IHL := hid (implTermValue vars v2 hv B2 l (w.alloc (.cells #[.int .i64 k, l.val, r.val] 177)) hok.2.2.1 hfit.1.1 (ha.below hb0))
    have IHR := hid (fun w (h : Nu.At w B2 v2 vars) => implTermValue vars v2 hv B2 r w hok.2.2.2 hfit.2.1 h)
    have H9 : Hid (∀ x y, okVal l vars x → okVal r vars y → k = 9 → (x = 0 ∨ x = 1) ∧ (y = 0 ∨ y = 1)) := hid (fun x y hx hy e => by
      have hp : pairAsk k = 2 := by unfold pairAsk; rw [if_neg (by rw [inR_iff]; omega)]
      exact ⟨hx.2.1 (hfit.1.2.trans hp), hy.2.1 (hfit.2.2.trans hp)⟩)
    have HX : Hid (∀ x y, okVal l vars x → okVal r vars y → l.good vars = true → r.good vars = true → okVal (.pair k l r) vars (oneVal k x y)) := hid (fun x y hx hy hg1 hg2 => by
      have h1 := hx.1 hg1
      have h2 := hy.1 hg2
      have hin := one_in hok.1 hok.2.1 h1.2.1 h1.2.2 h2.2.1 h2.2.2 (H9.out x y hx hy)
      refine ⟨fun hg => ⟨by rw [h1.1, h2.1]; rfl, ?_⟩, fun hty => ?_, hin.1, hin.2⟩
      · simp only [Tm.good, Bool.and_eq_true] at hg
        have := hg.2
        unfold oneOk at this
        simp only [Bool.and_eq_true] at this
        rw [h1.1, h2.1]
        exact inR_iff.1 this.2
      · refine one_bit hok.2.1 ?_ (H9.out x y hx hy)
        have hty2 : pairOwn k = 2 := hty
        by_cases c : 7 ≤ k
        · exact c
        · rw [own_one hok.1 (by omega)] at hty2; omega)
    have HX0 : Hid (l.good vars = false ∨ r.good vars = false → okVal (.pair k l r) vars 0) := hid (fun h => ⟨fun hg => by
      simp only [Tm.good, Bool.and_eq_true] at hg
      rcases h with h | h
      · rw [h] at hg; exact absurd hg.1.1 (by decide)
      · rw [h] at hg; exact absurd hg.1.2 (by decide), fun _ => .inl rfl, by omega, by omega⟩)
    have HG : Hid (∀ x y, okVal l vars x → okVal r vars y → l.good vars = true → r.good vars = true → (Tm.pair k l r).good vars = oneOk k x y) := hid (fun x y hx hy hg1 hg2 => by
      simp only [Tm.good]
      rw [hg1, hg2, (hx.1 hg1).1, (hy.1 hg2).1]
      rfl)
    have HG0 : Hid ((l.good vars = false ∨ r.good vars = false) → (Tm.pair k l r).good vars = false) := hid (fun h => by
      simp only [Tm.good]
      rcases h with h | h <;> rw [h] <;> simp)
    have HK := hid (And.intro hok.1 hok.2.1)
    have HA := hid ha
    obtain ⟨a, cap, rfl⟩ := ha.slice
    change Calls Tryz.prog 140 #[.iface 177 (.agg #[.int .i64 k, l.val, r.val]), .slice a vars.length cap] w fun e w' => (∃ x, e = .returned (.tuple #[.int .i64 x, .bool ((Tm.pair k l r).good vars)]) ∧ okVal (.pair k l r) vars x) ∧ Below w.heap.size w w'
    obtain ⟨ty1, v1, hv1⟩ := l.val_if
    obtain ⟨ty2, v2', hv2⟩ := r.val_if
    rw [hv1] at IHL hb0 hsz ⊢
    rw [hv2] at IHL IHR hb0 hsz ⊢
    clear hv1 hv2 hok hfit ha hv
    have HB := hid hb0
    clear hb0
    go_enter Tryz.func140, Tryz.ntmps140
    go_wp2_with fail
    refine IHL.out.mono ?_
    rintro e w1 ⟨⟨x, rfl, hx⟩, hb1⟩
    have hx1 := hx.2.2.1
    have hx2 := hx.2.2.2
    have HXL := hid hx
    have hs1 : w.heap.size < w1.heap.size := by have := hb1.size; omega
    have u0 := kept_cell hb1 (b := w.heap.size) (o := 0) (v := .int .i64 k) (by omega) (by go_simp)
    have u2 := kept_cell hb1 (b := w.heap.size) (o := 2) (v := .iface ty2 v2') (by omega) (by go_simp)
    have HB1 := hid (HB.out.trans (hb1.mono HB.out.size))
    have IHR1 := hid (IHR.out w1 (HA.out.below HB1.out))
    clear hx IHL
    go_wp2_with fail
    refine IHR1.out.mono ?_
    rintro e w2 ⟨⟨y, rfl, hy⟩, hb2⟩
    have hy1 := hy.2.2.1
    have hy2 := hy.2.2.2
    have HYR := hid hy
    have m0 := kept_cell hb2 hs1 u0
    have HB2 := hid (HB1.out.trans (hb2.mono HB1.out.size))
    clear hy IHR IHR1
    cases hg1 : l.good vars
    · have HG1 := hid hg1
      clear hg1
      go_wp2
      go_ret2
      exact ⟨⟨0, by rw [HG0.out (.inl HG1.out)]; rfl, HX0.out (.inl HG1.out)⟩, HB2.out⟩
    · have HG1 := hid hg1
      clear hg1
      cases hg2 : r.good vars
      · have HG2 := hid hg2
        clear hg2
        go_wp2
        go_ret2
        exact ⟨⟨0, by rw [HG0.out (.inr HG2.out)]; rfl, HX0.out (.inr HG2.out)⟩, HB2.out⟩
      · have HG2 := hid hg2
        clear hg2
        have e1 := HXL.out.1 HG1.out
        have e2 := HYR.out.1 HG2.out
        have HP := hid (implPair k x y w2 HK.out e1.2.1 e1.2.2 e2.2.1 e2.2.2 (H9.out x y HXL.out HYR.out))
        clear e1 e2
        go_wp2_with fail
        refine HP.out.mono ?_
        rintro e w3 ⟨rfl, rfl⟩
        clear HP
        go_wp2
        go_ret2
        exact ⟨⟨oneVal k x y, by rw [HG.out x y HXL.out HYR.out HG1.out HG2.out]; rfl, HX.out x y HXL.out HYR.out HG1.out HG2.out⟩, HB2.out⟩
theorem fldCode (c x : Int) (w : World) : (Instr.field 159 (.agg #[.int .i64 c, .int .i64 x]) 0).run Tryz.prog w = .ok (.int .i64 c) w := by kernel_rfl
set_option maxRecDepth 100000 in
set_option maxHeartbeats 4000000 in
theorem implEvalExpr (B B2 : Nat) (ns : List NodeD) (vars : List Int) (v v2 : Value) (w : World) (hl : ns.length ≤ 1048576) (hl2 : vars.length ≤ 1048576) (ha : Nd.At w B v ns) (ha2 : Nu.At w B2 v2 vars) :
    Calls Tryz.prog 131 #[v, v2] w fun e w' => e = .returned (.agg #[.int .i64 (evalCode ns vars), .int .i64 (evalVal ns vars)]) ∧ Below w.heap.size w w' := by
  obtain ⟨a, cap, rfl⟩ := ha.slice
  obtain ⟨a2, cap2, rfl⟩ := ha2.slice
  have hb0 : Below w.heap.size w (w.alloc (.cells #[.int .i64 0, .int .i64 0] 159)) := (Below.refl _ w).alloc (Nat.le_refl _) _
  have HF := hid (implTypeOf B ns _ (w.alloc (.cells #[.int .i64 0, .int .i64 0] 159)) hl (ha.below hb0))
  have HA := hid ha
  have HA2 := hid ha2
  have hfc := fldCode
  clear ha ha2
  go_enter Tryz.func131, Tryz.ntmps131
  go_wp2_with fail
  refine HF.out.mono ?_
  rintro e w1 ⟨rfl, hb1⟩
  have B1 : Below w.heap.size w w1 := hb0.trans (hb1.mono (by simp))
  simp only [World.size_alloc] at hb1
  have l1 : w.heap.size < w1.heap.size := by have := hb1.size; simp at this; omega
  have r0 := kept_cell hb1 (b := w.heap.size) (o := 0) (v := .int .i64 0) (by omega) (by go_simp)
  have r1 := kept_cell hb1 (b := w.heap.size) (o := 1) (v := .int .i64 0) (by omega) (by go_simp)
  have f0 := kept_free hb1 (b := w.heap.size) (o := 0) (by omega) (by go_simp)
  have f1 := kept_free hb1 (b := w.heap.size) (o := 1) (by omega) (by go_simp)
  clear HF
  by_cases ht : typeCode ns = 0
  · have b1 : (typeCode ns != 0) = false := by simp [ht]
    have HTZ := hid ht
    have HVS := hid (implVars B2 vars _ w1 hl2 (HA2.out.below B1))
    clear ht
    by_cases hv : vFault vars = 0
    · have b2 : (vFault vars != 0) = false := by simp [hv]
      have HVZ := hid hv
      have HTP := hid (implTop B ns _ w1 hl (HA.out.below B1))
      clear hv
      generalize typeVal ns = tv at *
      generalize htc : typeCode ns = tc at *
      generalize hvc : vFault vars = vc at *
      go_wp2_with (first | (go_at_call 38; refine HVS.out.mono ?_; rintro e w2 ⟨rfl, rfl⟩))
      refine HTP.out.mono ?_
      rintro e w3 ⟨h3, hb3⟩
      have he0 : eFault ns = 0 := of_type (htc.trans HTZ.out)
      rcases h3 with ⟨t, h0, h1, rfl⟩ | ⟨h0, rfl⟩
      · have l3 : w.heap.size < w3.heap.size := by have := hb3.size; omega
        have u0 := kept_cell hb3 l1 r0
        have u1 := kept_cell hb3 l1 r1
        have x0 := kept_free hb3 l1 f0
        have x1 := kept_free hb3 l1 f1
        have B3 := B1.trans (hb3.mono B1.size)
        have hfit : t.fit = true := by
          rw [(top_fit h0 h1).1]
          cases hto : tOk ns
          · have := (ty_bad h0 hto).1
            have hz := HTZ.out
            omega
          · rfl
        have HT := hid (implTermValue vars _ (hvc.trans HVZ.out) B2 t w3 (top_nodes h0 h1).2.1 hfit (HA2.out.below B3))
        obtain ⟨g1, g2⟩ := top_good (vars := vars) h0 h1 hfit
        have HTB := hid (fun h => ev_bad (htc.trans HTZ.out) (hvc.trans HVZ.out) (g1.symm.trans h))
        have HTO := hid (fun h => ev_ok (htc.trans HTZ.out) (hvc.trans HVZ.out) (g1.symm.trans h))
        have HTY := hid g2
        obtain ⟨ty1, v1, hv1⟩ := t.val_if
        rw [hv1] at HT ⊢
        clear hv1 h0 h1 g1 g2 he0 hfit
        go_wp2_with fail
        refine HT.out.mono ?_
        rintro e w4 ⟨⟨x, rfl, hx⟩, hb4⟩
        have B4 := B3.trans (hb4.mono B3.size)
        have l4 : w.heap.size < w4.heap.size := by have := hb4.size; omega
        have y0 := kept_cell hb4 l3 u0
        have y1 := kept_cell hb4 l3 u1
        have z0 := kept_free hb4 l3 x0
        have z1 := kept_free hb4 l3 x1
        cases hgood : t.good vars
        · have HV := hid (HTB.out hgood)
          clear hgood hx
          go_wp2
          exact bodyPost_ret (v := .agg #[.int .i64 8, .int .i64 0]) (by simp [results, Tryz.results131, go_sem, y0, y1]) rfl ⟨ret_two HV.out.1.symm HV.out.2.symm, setB (setB B4 (Nat.le_refl _) _) (Nat.le_refl _) _⟩
        · have HV := hid (HTO.out hgood)
          have HX := hid (hx.1 hgood).1
          clear hgood hx
          go_wp2
          exact bodyPost_ret (v := .agg #[.int .i64 0, .int .i64 x]) (by simp [results, Tryz.results131, go_sem, y0, y1]) rfl ⟨ret_two HV.out.1.symm ((HX.out.trans HTY.out).trans HV.out.2.symm), setB (setB B4 (Nat.le_refl _) _) (Nat.le_refl _) _⟩
      · exact absurd he0 h0
    · have HV := hid (ev_vars HTZ.out hv)
      have b2 : (vFault vars != 0) = true := by simpa using hv
      clear hv
      generalize vFault vars = vc at *
      go_wp2_with (first | (go_at_call 38; refine HVS.out.mono ?_; rintro e w2 ⟨rfl, rfl⟩))
      exact bodyPost_ret (v := .agg #[.int .i64 vc, .int .i64 0]) (by simp [results, Tryz.results131, go_sem, r0, r1]) rfl ⟨ret_two HV.out.1.symm HV.out.2.symm, setB (setB B1 (Nat.le_refl _) _) (Nat.le_refl _) _⟩
  · have HV := hid (ev_type (vars := vars) ht)
    have b1 : (typeCode ns != 0) = true := by simpa using ht
    clear ht
    generalize typeCode ns = tc at *
    go_wp2
    exact bodyPost_ret (v := .agg #[.int .i64 tc, .int .i64 0]) (by simp [results, Tryz.results131, go_sem, r0, r1]) rfl ⟨ret_two HV.out.1.symm HV.out.2.symm, setB (setB B1 (Nat.le_refl _) _) (Nat.le_refl _) _⟩
end Ex
end Go.Proofs.YtpgbjpfpgbjbeaaGreatDoor
