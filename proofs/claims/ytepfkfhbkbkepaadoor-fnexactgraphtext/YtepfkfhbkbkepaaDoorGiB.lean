/- What the program asks of a node. -/
import Derived.Test.YtepfkfhbkbkepaaDoorGiA
namespace Go.Proofs.YtepfkfhbkbkepaaDoor
open Go.RowKit
set_option linter.unusedVariables false
namespace Gr
open Ex (hid inR)
open Nd (NodeD)
open Gn (GNodeD)
open Tr (nf)
set_option maxRecDepth 100000 in
set_option maxHeartbeats 8000000 in
theorem allows (r : NRuleD) (s : GNodeD) (a : Option Addr) (n cap : Nat) (w : World) (hn : n = s.expr.length) (hl : n ≤ 1048576) :
    Calls Tryd.prog 42 #[.agg #[.string r.word, .bool r.hs, .bool r.hn, .bool r.ha, .bool r.he], .agg #[.int .i64 s.kind, .int .i64 s.step, .string s.name, .int .i64 s.arg, .slice a n cap]] w fun e w' => e = .returned (.bool (allowsN r s)) ∧ Below w.heap.size w w' := by
  have HB : Hid (Below w.heap.size w ((w.alloc (.cells #[.string r.word, .bool r.hs, .bool r.hn, .bool r.ha, .bool r.he] 86)).alloc (.cells #[.int .i64 s.kind, .int .i64 s.step, .string s.name, .int .i64 s.arg, .slice a n cap] 46))) := hid (((Below.refl _ w).alloc (Nat.le_refl _) _).alloc (by simp) _)
  unfold allowsN
  rw [← hn]
  clear hn
  generalize s.kind = kind at *
  generalize s.step = step at *
  generalize s.name = nm at *
  generalize s.arg = arg at *
  obtain ⟨word, hs, hn, ha, he⟩ := r
  simp only at HB ⊢
  cases hs
  · cases b0 : (step == 0)
    · skip
      go_enter Tryd.func42, Tryd.ntmps42
      go_wp2
      go_ret
      exact ⟨by simp [*], HB.out⟩
    · skip
      cases hn
      · cases b1 : nm.toList.isEmpty
        · skip
          go_enter Tryd.func42, Tryd.ntmps42
          go_wp2
          go_ret
          exact ⟨by simp [*], HB.out⟩
        · skip
          cases ha
          · cases b2 : (arg == 0)
            · skip
              go_enter Tryd.func42, Tryd.ntmps42
              go_wp2
              go_ret
              exact ⟨by simp [*], HB.out⟩
            · skip
              cases he
              · cases b3 : ((n : Int) == 0)
                · skip
                  go_enter Tryd.func42, Tryd.ntmps42
                  go_wp2
                  go_ret
                  exact ⟨by simp [*], HB.out⟩
                · skip
                  go_enter Tryd.func42, Tryd.ntmps42
                  go_wp2
                  go_ret
                  exact ⟨by simp [*], HB.out⟩
              · skip
                go_enter Tryd.func42, Tryd.ntmps42
                go_wp2
                go_ret
                exact ⟨by simp [*], HB.out⟩
          · skip
            cases he
            · cases b3 : ((n : Int) == 0)
              · skip
                go_enter Tryd.func42, Tryd.ntmps42
                go_wp2
                go_ret
                exact ⟨by simp [*], HB.out⟩
              · skip
                go_enter Tryd.func42, Tryd.ntmps42
                go_wp2
                go_ret
                exact ⟨by simp [*], HB.out⟩
            · skip
              go_enter Tryd.func42, Tryd.ntmps42
              go_wp2
              go_ret
              exact ⟨by simp [*], HB.out⟩
      · skip
        cases ha
        · cases b2 : (arg == 0)
          · skip
            go_enter Tryd.func42, Tryd.ntmps42
            go_wp2
            go_ret
            exact ⟨by simp [*], HB.out⟩
          · skip
            cases he
            · cases b3 : ((n : Int) == 0)
              · skip
                go_enter Tryd.func42, Tryd.ntmps42
                go_wp2
                go_ret
                exact ⟨by simp [*], HB.out⟩
              · skip
                go_enter Tryd.func42, Tryd.ntmps42
                go_wp2
                go_ret
                exact ⟨by simp [*], HB.out⟩
            · skip
              go_enter Tryd.func42, Tryd.ntmps42
              go_wp2
              go_ret
              exact ⟨by simp [*], HB.out⟩
        · skip
          cases he
          · cases b3 : ((n : Int) == 0)
            · skip
              go_enter Tryd.func42, Tryd.ntmps42
              go_wp2
              go_ret
              exact ⟨by simp [*], HB.out⟩
            · skip
              go_enter Tryd.func42, Tryd.ntmps42
              go_wp2
              go_ret
              exact ⟨by simp [*], HB.out⟩
          · skip
            go_enter Tryd.func42, Tryd.ntmps42
            go_wp2
            go_ret
            exact ⟨by simp [*], HB.out⟩
  · skip
    cases hn
    · cases b1 : nm.toList.isEmpty
      · skip
        go_enter Tryd.func42, Tryd.ntmps42
        go_wp2
        go_ret
        exact ⟨by simp [*], HB.out⟩
      · skip
        cases ha
        · cases b2 : (arg == 0)
          · skip
            go_enter Tryd.func42, Tryd.ntmps42
            go_wp2
            go_ret
            exact ⟨by simp [*], HB.out⟩
          · skip
            cases he
            · cases b3 : ((n : Int) == 0)
              · skip
                go_enter Tryd.func42, Tryd.ntmps42
                go_wp2
                go_ret
                exact ⟨by simp [*], HB.out⟩
              · skip
                go_enter Tryd.func42, Tryd.ntmps42
                go_wp2
                go_ret
                exact ⟨by simp [*], HB.out⟩
            · skip
              go_enter Tryd.func42, Tryd.ntmps42
              go_wp2
              go_ret
              exact ⟨by simp [*], HB.out⟩
        · skip
          cases he
          · cases b3 : ((n : Int) == 0)
            · skip
              go_enter Tryd.func42, Tryd.ntmps42
              go_wp2
              go_ret
              exact ⟨by simp [*], HB.out⟩
            · skip
              go_enter Tryd.func42, Tryd.ntmps42
              go_wp2
              go_ret
              exact ⟨by simp [*], HB.out⟩
          · skip
            go_enter Tryd.func42, Tryd.ntmps42
            go_wp2
            go_ret
            exact ⟨by simp [*], HB.out⟩
    · skip
      cases ha
      · cases b2 : (arg == 0)
        · skip
          go_enter Tryd.func42, Tryd.ntmps42
          go_wp2
          go_ret
          exact ⟨by simp [*], HB.out⟩
        · skip
          cases he
          · cases b3 : ((n : Int) == 0)
            · skip
              go_enter Tryd.func42, Tryd.ntmps42
              go_wp2
              go_ret
              exact ⟨by simp [*], HB.out⟩
            · skip
              go_enter Tryd.func42, Tryd.ntmps42
              go_wp2
              go_ret
              exact ⟨by simp [*], HB.out⟩
          · skip
            go_enter Tryd.func42, Tryd.ntmps42
            go_wp2
            go_ret
            exact ⟨by simp [*], HB.out⟩
      · skip
        cases he
        · cases b3 : ((n : Int) == 0)
          · skip
            go_enter Tryd.func42, Tryd.ntmps42
            go_wp2
            go_ret
            exact ⟨by simp [*], HB.out⟩
          · skip
            go_enter Tryd.func42, Tryd.ntmps42
            go_wp2
            go_ret
            exact ⟨by simp [*], HB.out⟩
        · skip
          go_enter Tryd.func42, Tryd.ntmps42
          go_wp2
          go_ret
          exact ⟨by simp [*], HB.out⟩
theorem nvals (r : NRuleD) : Value.agg r.row = .agg #[.string r.word, .bool r.hs, .bool r.hn, .bool r.ha, .bool r.he] := rfl
set_option maxRecDepth 100000 in
set_option maxHeartbeats 8000000 in
theorem implNode (s : GNodeD) (a : Option Addr) (n cap : Nat) (w : World) (hn : n = s.expr.length) (hl : n ≤ 1048576) (hs : s.name.size ≤ maxLen) (hr : NRul w) :
    Calls Tryd.prog 32 #[.agg #[.int .i64 s.kind, .int .i64 s.step, .string s.name, .int .i64 s.arg, .slice a n cap]] w fun e w' => e = .returned (.int .i64 (nodeC s)) ∧ Below w.heap.size w w' := by
  have hB0 : Below w.heap.size w (w.alloc (.cells #[.int .i64 s.kind, .int .i64 s.step, .string s.name, .int .i64 s.arg, .slice a n cap] 46)) := (Below.refl _ w).alloc (Nat.le_refl _) _
  have HB0 := hid hB0
  have HR0 := hid (hr.below hB0 hr.lt)
  clear hr
  have z0 : w.heap.size < (w.alloc (.cells #[.int .i64 s.kind, .int .i64 s.step, .string s.name, .int .i64 s.arg, .slice a n cap] 46)).heap.size := by simp
  have d0 : (w.alloc (.cells #[.int .i64 s.kind, .int .i64 s.step, .string s.name, .int .i64 s.arg, .slice a n cap] 46)).cell? ⟨w.heap.size, 0, none⟩ = some (.int .i64 s.kind) := by go_simp
  have d1 : (w.alloc (.cells #[.int .i64 s.kind, .int .i64 s.step, .string s.name, .int .i64 s.arg, .slice a n cap] 46)).cell? ⟨w.heap.size, 1, none⟩ = some (.int .i64 s.step) := by go_simp
  have d2 : (w.alloc (.cells #[.int .i64 s.kind, .int .i64 s.step, .string s.name, .int .i64 s.arg, .slice a n cap] 46)).cell? ⟨w.heap.size, 2, none⟩ = some (.string s.name) := by go_simp
  have d3 : (w.alloc (.cells #[.int .i64 s.kind, .int .i64 s.step, .string s.name, .int .i64 s.arg, .slice a n cap] 46)).cell? ⟨w.heap.size, 3, none⟩ = some (.int .i64 s.arg) := by go_simp
  have d4 : (w.alloc (.cells #[.int .i64 s.kind, .int .i64 s.step, .string s.name, .int .i64 s.arg, .slice a n cap] 46)).cell? ⟨w.heap.size, 4, none⟩ = some (.slice a n cap) := by go_simp
  have HA := hid (fun r w' => allows r s a n cap w' hn hl)
  have HE := hid hn
  clear hn
  go_enter Tryd.func32, Tryd.ntmps32
  go_wp2_with fail
  generalize w.alloc (.cells #[.int .i64 s.kind, .int .i64 s.step, .string s.name, .int .i64 s.arg, .slice a n cap] 46) = w0 at *
  cases hk : inR s.kind 1 13
  · refine (nruleBad _ _ hk).mono ?_
    rintro e w1 ⟨rfl, hb1⟩
    have HV := hid (n_form (n := s) (.inl hk))
    have HB1 := hid (HB0.out.trans (hb1.mono HB0.out.size))
    clear hb1 d0 d1 d2 d3 d4 hk
    go_wp2
    go_ret
    exact ⟨by rw [HV.out]; rfl, HB1.out.alloc HB1.out.size _⟩
  refine (nruleOk _ _ hk HR0.out).mono ?_
  rintro e w1 ⟨rfl, hb1⟩
  have HN := hid (hn_iff hk)
  have HAL := hid (allowsN_eq (n := s) hk)
  have HK := hid hk
  rw [nvals]
  generalize nruleD s.kind = r at *
  have HB1 := hid (HB0.out.trans (hb1.mono HB0.out.size))
  have z1 : w.heap.size < w1.heap.size := Nat.lt_of_lt_of_le z0 hb1.size
  have e0 := (hb1.cell (p := ⟨w.heap.size, 0, none⟩) z0).trans d0
  have e1 := (hb1.cell (p := ⟨w.heap.size, 1, none⟩) z0).trans d1
  have e2 := (hb1.cell (p := ⟨w.heap.size, 2, none⟩) z0).trans d2
  have e3 := (hb1.cell (p := ⟨w.heap.size, 3, none⟩) z0).trans d3
  have e4 := (hb1.cell (p := ⟨w.heap.size, 4, none⟩) z0).trans d4
  clear hb1 d0 d1 d2 d3 d4 hk z0
  go_wp2_with fail
  refine (HA.out r _).mono ?_
  rintro e w2 ⟨rfl, hb2⟩
  have hB2 : Below w1.heap.size w1 (w1.alloc (.cells #[.string r.word, .bool r.hs, .bool r.hn, .bool r.ha, .bool r.he] 86)) := (Below.refl _ w1).alloc (Nat.le_refl _) _
  have HB2 := hid ((HB1.out.trans (hB2.mono HB1.out.size)).trans (hb2.mono (HB1.out.trans (hB2.mono HB1.out.size)).size))
  have hB3 : Below w1.heap.size w1 w2 := hB2.trans (hb2.mono hB2.size)
  have e5 := (hb2.cell (p := ⟨w1.heap.size, 2, none⟩) (by simp)).trans (show _ = some (.bool r.hn) by go_simp)
  have z2 : w.heap.size < w2.heap.size := Nat.lt_of_lt_of_le z1 hB3.size
  have z3 : w1.heap.size < w2.heap.size := by have := hb2.size; simp at this; omega
  replace e1 := (hB3.cell (p := ⟨w.heap.size, 1, none⟩) z1).trans e1
  replace e2 := (hB3.cell (p := ⟨w.heap.size, 2, none⟩) z1).trans e2
  replace e3 := (hB3.cell (p := ⟨w.heap.size, 3, none⟩) z1).trans e3
  replace e4 := (hB3.cell (p := ⟨w.heap.size, 4, none⟩) z1).trans e4
  clear hb2 hB2 hB3 e0 HA HB1 HR0 z1
  cases hb : bare s
  · have HV := hid (n_form (n := s) (.inr hb))
    rw [HAL.out, hb]
    clear hb
    go_wp2
    go_ret
    exact ⟨by rw [HV.out]; rfl, HB2.out⟩
  rw [HAL.out, hb]
  have HBR := hid hb
  clear hb
  by_cases t1 : s.step < 0
  · have HV := hid (n_range HK.out HBR.out (.inl (Ex.inR_not.2 (by omega))))
    go_wp2
    go_ret
    exact ⟨by rw [HV.out]; rfl, HB2.out⟩
  by_cases t2 : 24 ≤ s.step
  · have HV := hid (n_range HK.out HBR.out (.inl (Ex.inR_not.2 (by omega))))
    go_wp2
    go_ret
    exact ⟨by rw [HV.out]; rfl, HB2.out⟩
  have HS := hid (Ex.inR_iff.2 (show 0 ≤ s.step ∧ s.step ≤ 23 by omega))
  by_cases t3 : s.arg < 0
  · have HV := hid (n_range HK.out HBR.out (.inr (Ex.inR_not.2 (by omega))))
    go_wp2
    go_ret
    exact ⟨by rw [HV.out]; rfl, HB2.out⟩
  by_cases t4 : 99 < s.arg
  · have HV := hid (n_range HK.out HBR.out (.inr (Ex.inR_not.2 (by omega))))
    go_wp2
    go_ret
    exact ⟨by rw [HV.out]; rfl, HB2.out⟩
  have HG := hid (Ex.inR_iff.2 (show 0 ≤ s.arg ∧ s.arg ≤ 99 by omega))
  by_cases t5 : (16 : Int) < n
  · have HV := hid (n_many HK.out HBR.out HS.out HG.out (by rw [← HE.out]; exact t5))
    go_wp2
    go_ret
    exact ⟨by rw [HV.out]; rfl, HB2.out⟩
  have H5 := hid (show ¬ (16 : Int) < s.expr.length by rw [← HE.out]; exact t5)
  by_cases t6 : s.kind = 3
  · have HV := hid (n_name HK.out HBR.out HS.out HG.out H5.out t6)
    have e6 : r.hn = true := by rw [HN.out]; simp [t6]
    have HNF := hid (fun w' => Tr.impl_nf s.name w' hs)
    clear t6
    rw [e6] at e5
    go_wp2_with fail
    refine (HNF.out _).mono ?_
    rintro e w3 ⟨rfl, rfl⟩
    go_wp2
    go_ret
    exact ⟨by rw [HV.out]; rfl, HB2.out⟩
  · have HV := hid (n_ok HK.out HBR.out HS.out HG.out H5.out t6)
    have e6 : r.hn = false := by rw [HN.out]; simp [t6]
    clear t6
    rw [e6] at e5
    go_wp2
    go_ret
    exact ⟨by rw [HV.out]; rfl, HB2.out⟩
end Gr
end Go.Proofs.YtepfkfhbkbkepaaDoor
