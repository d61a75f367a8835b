/- A branch put behind all others, as the program does it. -/
import Derived.Test.YtnbmpofmieagfaaGreatDoorJFnProcs25
import Derived.Below
namespace Go.Proofs.YtnbmpofmieagfaaGreatDoor
open Go.RowKit
set_option linter.unusedVariables false
namespace Pt
open Ex (hid)
open Nd (NodeD)
open St (StepD)
open Tr (Chain cutTo onPath top ElemD cut_yes cut_no onPath_cons top_lt top_ge chain_tail on_lt)
theorem chain_get {es : List ElemD} {a : Nat} {r : List Nat} (h : Chain es (a :: r)) : ∃ h1 : a < es.length, es[a].parent = top r := by
  obtain ⟨⟨e, he, hp⟩, _, _⟩ := h
  obtain ⟨h1, h2⟩ := List.getElem?_eq_some_iff.1 he
  exact ⟨h1, by rw [h2]; exact hp⟩
def DeepOn (T : Nat → Br) : List Nat → Prop
  | [] => True
  | a :: r => (T a).deep = r.length + 1 ∧ DeepOn T r
theorem deep_cut {T : Nat → Br} {p : Int} : ∀ {S : List Nat}, DeepOn T S → DeepOn T (cutTo p S)
  | [], _ => trivial
  | a :: r, h => by
    unfold cutTo
    split
    · exact h
    · exact deep_cut h.2
theorem cut_cons {p : Int} : ∀ {S : List Nat}, onPath p S = true → ∃ a r, cutTo p S = a :: r ∧ (a : Int) = p
  | [], h => by simp [onPath] at h
  | a :: r, h => by
    by_cases e : (a : Int) = p
    · exact ⟨a, r, cut_yes e, e⟩
    · rw [cut_no e]
      exact cut_cons (by rw [onPath_cons] at h; simpa [e] using h)
theorem deep_at {T : Nat → Br} {p : Int} {S : List Nat} (h : DeepOn T S) (hp : onPath p S = true) : (T p.toNat).deep = (cutTo p S).length := by
  obtain ⟨a, r, e, ea⟩ := cut_cons hp
  have h2 := deep_cut (p := p) h
  rw [e] at h2 ⊢
  have : p.toNat = a := by omega
  rw [this]
  exact h2.1
theorem deep_congr {T T' : Nat → Br} {n : Nat} {es : List ElemD} (hT : ∀ j, j < n → (T' j).deep = (T j).deep) : ∀ {S : List Nat}, Chain es S → top S < n → DeepOn T S → DeepOn T' S
  | [], _, _, _ => trivial
  | a :: r, hc, hn, h => by
    have ha : (a : Int) < n := hn
    have := top_lt hc
    exact ⟨by rw [hT a (by omega)]; exact h.1, deep_congr hT hc.2.2 (by omega) h.2⟩
def pfault (n : Nat) (S : List Nat) (p : Int) : Int := if n = 0 then (if p = -1 then 0 else 3) else if 0 ≤ p ∧ p < n then (if onPath p S then 0 else 1) else 3
set_option maxRecDepth 100000 in
set_option maxHeartbeats 400000 in
theorem hasPlace (a : Option Addr) (n cap : Nat) (p : Int) (w : World) (hn : n ≤ 1048576) :
    Calls Tryz.prog 107 #[.slice a n cap, .int .i64 p] w fun e w' => e = .returned (.bool (decide (0 ≤ p) && decide (p < n))) ∧ w' = w := by
  by_cases h1 : 0 ≤ p
  · by_cases h2 : p < (n : Int)
    · have HV : Hid ((decide (0 ≤ p) && decide (p < n)) = true) := hid (by simp [h1, h2])
      go_enter Tryz.func107, Tryz.ntmps107
      go_wp2
      go_ret
      exact ⟨by simp [h1, h2], rfl⟩
    · go_enter Tryz.func107, Tryz.ntmps107
      go_wp2
      go_ret
      exact ⟨by simp; omega, rfl⟩
  · go_enter Tryz.func107, Tryz.ntmps107
    go_wp2
    go_ret
    exact ⟨by simp; omega, rfl⟩
set_option maxRecDepth 100000 in
set_option maxHeartbeats 2000000 in
theorem parentFault (es : List ElemD) (T : Nat → Br) (S : List Nat) (B : Nat) (v : Value) (n : Nat) (p : Int) (w : World) (hn : n ≤ 1048576) (hle : n ≤ es.length) (ht : TreeAt w B v n T)
    (hT : ∀ j (h : j < es.length), j < n → (T j).par = es[j].parent) (hc : Chain es S) (h1 : top S = (n : Int) - 1) :
    Calls Tryz.prog 91 #[v, .int .i64 p] w fun e w' => e = .returned (.int .i64 (pfault n S p)) ∧ w' = w := by
  obtain ⟨a, cap, rfl⟩ := ht.slice
  have HT := hid ht
  have HP := hid hT
  have HC := hid hc
  have H1 := hid h1
  have HH := hid (hasPlace a n cap p w hn)
  clear ht hT hc h1
  by_cases h0 : n = 0
  · by_cases hp : p = -1
    · have HV : Hid (pfault n S p = 0) := hid (by unfold pfault; rw [if_pos h0, if_pos hp])
      have b0 : ((n : Int) == 0) = true := beq_iff_eq.2 (by omega)
      have b1 : (p != -1) = false := by simp [hp]
      clear h0 hp
      go_enter Tryz.func91, Tryz.ntmps91
      go_wp2
      go_ret
      exact ⟨by rw [HV.out]; rfl, rfl⟩
    · have HV : Hid (pfault n S p = 3) := hid (by unfold pfault; rw [if_pos h0, if_neg hp])
      have b0 : ((n : Int) == 0) = true := beq_iff_eq.2 (by omega)
      have b1 : (p != -1) = true := bne_iff_ne.2 hp
      clear h0 hp
      go_enter Tryz.func91, Tryz.ntmps91
      go_wp2
      go_ret
      exact ⟨by rw [HV.out]; rfl, rfl⟩
  have b0 : ((n : Int) == 0) = false := beq_eq_false_iff_ne.2 (by omega)
  by_cases hp : 0 ≤ p ∧ p < (n : Int)
  · have HV : Hid (pfault n S p = if onPath p S then 0 else 1) := hid (by unfold pfault; rw [if_neg h0, if_pos hp])
    have e1 : (decide (0 ≤ p) && decide (p < n)) = true := by simp [hp.1, hp.2]
    rw [e1] at HH
    have hp1 := hp.1
    have hp2 := hp.2
    clear hp e1 h0
    go_enter Tryz.func91, Tryz.ntmps91
    go_wp2_with (go_at_call 107; refine HH.out.mono ?_; rintro e w' ⟨rfl, rfl⟩)
    go_loop [5] (fun x => ∃ S' : List Nat, x = .int .i64 (top S') ∧ top S' < n ∧ Hid (Chain es S' ∧ onPath p S = onPath p S')) (fun x => (intOf x + 1).toNat)
    case atStart => exact ⟨S, by rw [H1.out], by rw [H1.out]; omega, HC.out, rfl⟩
    case round =>
      obtain ⟨S', rfl, htn, HS⟩ := hrel
      have htg0 := top_ge S'
      cases S' with
      | nil =>
        have HX : Hid (onPath p S = false) := hid (by rw [HS.out.2]; rfl)
        have q2 : ¬ p < top [] := by show ¬ p < -1; omega
        have q3 : (top [] != p) = true := bne_iff_ne.2 (by show ((-1 : Int)) ≠ p; omega)
        go_wp2
        go_ret
        exact ⟨by rw [HV.out, HX.out]; rfl, rfl⟩
      | cons x r =>
        obtain ⟨hx, hpx⟩ := chain_get HS.out.1
        have htl := top_lt HS.out.1
        have htg := top_ge r
        have ht : top (x :: r) = (x : Int) := rfl
        rw [ht] at htn ⊢
        have hxn : x < n := by omega
        by_cases hgt : p < (x : Int)
        · have HX : Hid (Chain es r ∧ onPath p S = onPath p r) := hid ⟨chain_tail HS.out.1, by
            rw [HS.out.2, onPath_cons]
            have : ¬ ((x : Int) = p) := by omega
            simp [this]⟩
          obtain ⟨g, rfl, _, hB, hg, c0, c1, c2, c3, c4, c5, c6, c7, c8, _⟩ := HT.out.at hxn
          rw [HP.out x hx hxn, hpx] at c6
          clear c0 c1 c2 c3 c4 c5 c7 c8
          have q3 : (x : Int) < (n : Int) := by omega
          go_wp2
          exact ⟨⟨r, rfl, by omega, HX⟩, by simp [intOf]; omega⟩
        · by_cases he : (x : Int) = p
          · have HX : Hid (onPath p S = true) := hid (by rw [HS.out.2, onPath_cons]; simp [he])
            have q3 : ((x : Int) != p) = false := by simp [he]
            clear he
            go_wp2
            go_ret
            exact ⟨by rw [HV.out, HX.out]; rfl, rfl⟩
          · have HX : Hid (onPath p S = false) := hid (by
              rw [HS.out.2]
              cases hb : onPath p (x :: r)
              · rfl
              · have h3 := on_lt HS.out.1 hb
                have h4 : top (x :: r) = (x : Int) := rfl
                omega)
            have q3 : ((x : Int) != p) = true := bne_iff_ne.2 he
            clear he
            go_wp2
            go_ret
            exact ⟨by rw [HV.out, HX.out]; rfl, rfl⟩
  · have HV : Hid (pfault n S p = 3) := hid (by unfold pfault; rw [if_neg h0, if_neg hp])
    have e1 : (decide (0 ≤ p) && decide (p < n)) = false := by
      rw [← Bool.not_eq_true]; intro e; apply hp; simpa using e
    rw [e1] at HH
    clear hp e1 h0
    go_enter Tryz.func91, Tryz.ntmps91
    go_wp2_with (go_at_call 107; refine HH.out.mono ?_; rintro e w' ⟨rfl, rfl⟩)
    go_ret
    exact ⟨by rw [HV.out]; rfl, rfl⟩
end Pt
end Go.Proofs.YtnbmpofmieagfaaGreatDoor
