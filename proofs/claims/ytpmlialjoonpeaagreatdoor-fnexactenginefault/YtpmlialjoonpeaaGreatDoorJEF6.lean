/- The specification's ExprFault. -/
import Derived.Test.YtpmlialjoonpeaaGreatDoorJEF5
namespace Go.Proofs.YtpmlialjoonpeaaGreatDoor
open Go.RowKit
set_option linter.unusedVariables false
namespace Ex
open Nd (NodeD)
theorem owns_cell {w : World} {base g n cap i : Nat} {e : TypeId} {xs : List Value} (h : w.ownsRow base e 1 (.slice (some ⟨g, 0, none⟩) n cap) n xs) (hi : i < n) (hx : i < xs.length) : w.cell? ⟨g, i, none⟩ = some xs[i] := by
  obtain ⟨hl, ⟨e1, _⟩ | ⟨g', cap', cur, e1, hbg, hg, hle, hm, hs, ht⟩⟩ := h
  · cases e1
  · cases e1
    have : cur[i]? = some xs[i] := by
      have h2 := congrArg (·[i]?) ht
      simp only [Nat.mul_one, List.getElem?_take, hi, if_true, List.getElem?_eq_getElem hx] at h2
      simpa using h2
    simp [World.cell?, hg, this]
set_option maxRecDepth 100000 in
set_option maxHeartbeats 4000000 in
theorem specFault1 (B : Nat) (ns : List NodeD) (v : Value) (w : World) (hl : ns.length ≤ 1048576) (ha : Nd.At w B v ns) :
    Calls Tryz.prog 160 #[v] w fun e w' => e = .returned (.int .i64 (eFault ns)) ∧ Below w.heap.size w w' := by
  obtain ⟨a, cap, rfl⟩ := ha.slice
  have HA := hid ha
  clear ha
  by_cases z1 : ns.length < 1
  · have HV := hid (e_many (.inl z1))
    have q : (ns.length : Int) < 1 := by omega
    go_enter Tryz.func160, Tryz.ntmps160
    go_wp2
    go_ret
    exact ⟨by rw [HV.out]; rfl, Below.refl _ _⟩
  by_cases z2 : 16 < ns.length
  · have HV := hid (e_many (.inr z2))
    have q : ¬ (ns.length : Int) < 1 := by omega
    have q' : (16 : Int) < (ns.length : Int) := by omega
    go_enter Tryz.func160, Tryz.ntmps160
    go_wp2
    go_ret
    exact ⟨by rw [HV.out]; rfl, Below.refl _ _⟩
  have HZ : Hid (¬ (ns.length < 1 ∨ 16 < ns.length)) := hid (by omega)
  have q : ¬ (ns.length : Int) < 1 := by omega
  have q' : ¬ (16 : Int) < (ns.length : Int) := by omega
  go_enter Tryz.func160, Tryz.ntmps160
  go_wp2
  go_loopw [3, 4] (fun x _ wr => ∃ (i : Nat), x = .int .i64 i ∧ i ≤ ns.length ∧ Hid (eCodeTo ns i = 0) ∧ wr = w) (fun x _ _ => ns.length - (intOf x).toNat)
  case atStart => exact ⟨0, rfl, Nat.zero_le _, hid rfl, rfl⟩
  case round =>
    obtain ⟨i, rfl, hi, HC, rfl⟩ := hrel
    by_cases hlt : i < ns.length
    · obtain ⟨g, o, rfl, hg, c0, c1, c2, c3⟩ := HA.out.at hlt
      have q1 : (i : Int) < (ns.length : Int) := by omega
      have HN := hid (specNode ns[i] i g (o + i * 4) wr (by omega) (by omega) c0 c1 c2 c3)
      by_cases hc : nCode ns[i] i = 0
      · have HC2 := hid (code_next hlt HC.out hc)
        rw [hc] at HN
        clear hc
        go_wp2_with fail
        refine HN.out.mono ?_
        rintro e w1 ⟨rfl, rfl⟩
        go_wp2
        exact ⟨⟨i + 1, by simp, by omega, HC2, trivial⟩, by simp [intOf]; omega⟩
      · have HV := hid (e_node HZ.out hlt HC.out hc)
        have b1 : (nCode ns[i] i != 0) = true := by simpa using hc
        clear hc
        go_wp2_with fail
        refine HN.out.mono ?_
        rintro e w1 ⟨rfl, rfl⟩
        go_wp2
        go_ret
        exact ⟨by rw [HV.out]; rfl, Below.refl _ _⟩
    · have hin : i = ns.length := by omega
      rw [hin] at HC
      clear hin
      have HW := hid (specWalk ns _ wr B HA.out (fun k hk => code_all HC.out k hk) (by omega) ns.length (ns.length - 1) [] (.slice none 0 0) wr (by omega) (by omega) (by omega) (by simp only [List.length_nil]; omega) (Below.refl _ _) (World.ownsRow_nil wr _ _ 1))
      have hcast : (((ns.length - 1 : Nat) : Nat) : Int) = (ns.length : Int) - 1 := by omega
      rw [hcast] at HW
      have HOF := hid (e_form HZ.out HC.out)
      have HOK := hid (e_ok HZ.out HC.out)
      have hol := order_len (ns := ns) (by omega)
      unfold order at HOF HOK hol
      generalize walkF ns ns.length (ns.length - 1) [] = od at *
      go_wp2_with fail
      refine HW.out.mono ?_
      rintro e w1 ⟨⟨u, rfl, ho⟩, hb1⟩
      obtain ⟨a1, d1, rfl⟩ := owns_slice ho
      have HO := hid ho
      clear ho HW hcast
      by_cases hln : od.length = ns.length
      · have b1 : ((od.length : Int) != (ns.length : Int)) = false := by simp; omega
        have HLN := hid hln
        clear hln
        go_wp2
        go_loop [6] (fun x => ∃ (j : Nat), x = .int .i64 j ∧ j ≤ od.length ∧ Hid (∀ m (hm : m < od.length), m < j → od[m] = m)) (fun x => od.length - (intOf x).toNat)
        case atStart => exact ⟨0, rfl, Nat.zero_le _, hid (fun m _ h => by omega)⟩
        case round =>
          obtain ⟨j, rfl, hj, HJ⟩ := hrel
          by_cases hlj : j < od.length
          · have qj : (j : Int) < (od.length : Int) := by omega
            obtain ⟨g1, rfl⟩ : ∃ g1, a1 = some ⟨g1, 0, none⟩ := by
              obtain ⟨_, ⟨e1, e2⟩ | ⟨g', cap', cur, e1, _⟩⟩ := HO.out
              · omega
              · cases e1; exact ⟨g', rfl⟩
            have m0 := owns_cell HO.out hlj (by simp [idVals]; omega)
            simp only [idVals, List.getElem_map] at m0
            by_cases he : od[j] = j
            · have b2 : ((od[j] : Int) != (j : Int)) = false := by simp; omega
              have HJ2 : Hid (∀ m (hm : m < od.length), m < j + 1 → od[m] = m) := hid (fun m hm h => by
                by_cases e : m = j
                · subst e; exact he
                · exact HJ.out m hm (by omega))
              clear he
              go_wp2
              exact ⟨⟨j + 1, by simp, by omega, HJ2⟩, by simp [intOf]; omega⟩
            · have b2 : ((od[j] : Int) != (j : Int)) = true := by simp; omega
              have HV := hid (HOF.out (range_not hlj he))
              clear he
              go_wp2
              go_ret
              exact ⟨by rw [HV.out]; rfl, hb1⟩
          · have HV := hid (HOK.out (range_of HLN.out (fun m hm => HJ.out m hm (by omega))))
            go_wp2
            go_ret
            exact ⟨by rw [HV.out]; rfl, hb1⟩
      · have b1 : ((od.length : Int) != (ns.length : Int)) = true := by simp; omega
        have HV := hid (HOF.out (fun e => hln (by rw [e]; simp)))
        clear hln
        go_wp2
        go_ret
        exact ⟨by rw [HV.out]; rfl, hb1⟩
end Ex
end Go.Proofs.YtpmlialjoonpeaaGreatDoor
