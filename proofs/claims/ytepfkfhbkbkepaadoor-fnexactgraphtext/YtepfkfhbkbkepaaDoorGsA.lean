/- The specification's small functions of graphs. -/
import Derived.Test.YtepfkfhbkbkepaaDoorGrA
import Derived.Test.YtepfkfhbkbkepaaDoorNmA
import Derived.Test.YtepfkfhbkbkepaaDoorExA
import Derived.Deep.Cut
import Derived.Deep.QuietTactic
import Derived.BigQuiet
namespace Go.Proofs.YtepfkfhbkbkepaaDoor
open Go.RowKit
set_option linter.unusedVariables false
namespace Gr
open Ex (hid inR specIn)
open Nd (NodeD)
open Gn (GNodeD)
open Fl (FlowD)
open Tr (nf)
set_option maxRecDepth 100000 in
set_option maxHeartbeats 8000000 in
theorem specBare (s : GNodeD) (g o : Nat) (a : Option Addr) (cap : Nat) (w : World) (hl : s.expr.length ≤ 1048576) (c0 : w.cell? ⟨g, o, none⟩ = some (.int .i64 s.kind)) (c1 : w.cell? ⟨g, o + 1, none⟩ = some (.int .i64 s.step)) (c2 : w.cell? ⟨g, o + 2, none⟩ = some (.string s.name)) (c3 : w.cell? ⟨g, o + 3, none⟩ = some (.int .i64 s.arg)) (c4 : w.cell? ⟨g, o + 4, none⟩ = some (.slice a s.expr.length cap)) :
    Calls Tryd.prog 28 #[.pointer (some ⟨g, o, none⟩)] w fun e w' => e = .returned (.bool (bare s)) ∧ w' = w := by
  have hlt := Nd.lt_of_cell c0
  have HBA : Hid (bare s = (((s.kind == 3) || s.name.toList.isEmpty) && (argK s.kind || (s.arg == 0)) && ((s.kind == 6) || ((s.expr.length : Int) == 0)) && (!endK s.kind || (s.step == 0)))) := hid rfl
  have HAK : Hid (argK s.kind = (inR s.kind 4 6 || (s.kind == 11))) := hid rfl
  have HEK : Hid (endK s.kind = ((s.kind == 1) || (s.kind == 2))) := hid rfl
  generalize bare s = bb at *
  generalize s.kind = kind at *
  generalize s.name = nm at *
  generalize s.arg = arg at *
  generalize s.step = st at *
  generalize s.expr.length = n at *
  have HI := hid (fun w' => specIn kind 4 6 w')
  generalize inR kind 4 6 = bi at *
  generalize hak : argK kind = ak at *
  generalize hek : endK kind = ek at *
  clear hak hek
  go_enter Tryd.func28, Tryd.ntmps28
  go_upto_region 1 with fail
  go_cut [3] from 5 (fun s3 wx => s3 = .bool ak ∧ wx = w)
  case first =>
    cases bi
    · cases b11 : (kind == 11)
      · go_wp2_with (go_at_call 27; refine (HI.out _).mono ?_; rintro e w1 ⟨rfl, rfl⟩)
        go_meet
        exact ⟨by rw [HAK.out, b11]; rfl, rfl⟩
      · go_wp2_with (go_at_call 27; refine (HI.out _).mono ?_; rintro e w1 ⟨rfl, rfl⟩)
        go_meet
        exact ⟨by rw [HAK.out, b11]; rfl, rfl⟩
    · go_wp2_with (go_at_call 27; refine (HI.out _).mono ?_; rintro e w1 ⟨rfl, rfl⟩)
      go_meet
      exact ⟨by rw [HAK.out]; rfl, rfl⟩
  case rest =>
    obtain ⟨rfl, hwc⟩ := hcut
    replace hwc := hwc.symm
    subst hwc
    clear HAK HI
    go_upto_region 2 with fail
    go_cut [4] from 5 (fun s4 wx => s4 = .bool ek ∧ wx = w)
    case first =>
      cases b1 : (kind == 1)
      · cases b2 : (kind == 2)
        · go_wp2
          go_meet
          exact ⟨by rw [HEK.out, b1, b2]; rfl, rfl⟩
        · go_wp2
          go_meet
          exact ⟨by rw [HEK.out, b1, b2]; rfl, rfl⟩
      · go_wp2
        go_meet
        exact ⟨by rw [HEK.out, b1]; rfl, rfl⟩
    case rest =>
      obtain ⟨rfl, hwc⟩ := hcut
      replace hwc := hwc.symm
      subst hwc
      clear HEK
      cases b3 : (kind == 3)
      · skip
        cases b4 : nm.toList.isEmpty
        · skip
          go_wp2
          go_ret
          exact ⟨by rw [HBA.out]; simp [*], rfl⟩
        · skip
          cases ak
          · skip
            cases b5 : (arg == 0)
            · skip
              go_wp2
              go_ret
              exact ⟨by rw [HBA.out]; simp [*], rfl⟩
            · skip
              cases b6 : (kind == 6)
              · skip
                cases b7 : ((n : Int) == 0)
                · skip
                  go_wp2
                  go_ret
                  exact ⟨by rw [HBA.out]; simp [*], rfl⟩
                · skip
                  cases ek
                  · skip
                    go_wp2
                    go_ret
                    exact ⟨by rw [HBA.out]; simp [*], rfl⟩
                  · skip
                    cases b8 : (st == 0)
                    · skip
                      go_wp2
                      go_ret
                      exact ⟨by rw [HBA.out]; simp [*], rfl⟩
                    · skip
                      go_wp2
                      go_ret
                      exact ⟨by rw [HBA.out]; simp [*], rfl⟩
              · skip
                cases ek
                · skip
                  go_wp2
                  go_ret
                  exact ⟨by rw [HBA.out]; simp [*], rfl⟩
                · skip
                  cases b8 : (st == 0)
                  · skip
                    go_wp2
                    go_ret
                    exact ⟨by rw [HBA.out]; simp [*], rfl⟩
                  · skip
                    go_wp2
                    go_ret
                    exact ⟨by rw [HBA.out]; simp [*], rfl⟩
          · skip
            cases b6 : (kind == 6)
            · skip
              cases b7 : ((n : Int) == 0)
              · skip
                go_wp2
                go_ret
                exact ⟨by rw [HBA.out]; simp [*], rfl⟩
              · skip
                cases ek
                · skip
                  go_wp2
                  go_ret
                  exact ⟨by rw [HBA.out]; simp [*], rfl⟩
                · skip
                  cases b8 : (st == 0)
                  · skip
                    go_wp2
                    go_ret
                    exact ⟨by rw [HBA.out]; simp [*], rfl⟩
                  · skip
                    go_wp2
                    go_ret
                    exact ⟨by rw [HBA.out]; simp [*], rfl⟩
            · skip
              cases ek
              · skip
                go_wp2
                go_ret
                exact ⟨by rw [HBA.out]; simp [*], rfl⟩
              · skip
                cases b8 : (st == 0)
                · skip
                  go_wp2
                  go_ret
                  exact ⟨by rw [HBA.out]; simp [*], rfl⟩
                · skip
                  go_wp2
                  go_ret
                  exact ⟨by rw [HBA.out]; simp [*], rfl⟩
      · skip
        cases ak
        · skip
          cases b5 : (arg == 0)
          · skip
            go_wp2
            go_ret
            exact ⟨by rw [HBA.out]; simp [*], rfl⟩
          · skip
            cases b6 : (kind == 6)
            · skip
              cases b7 : ((n : Int) == 0)
              · skip
                go_wp2
                go_ret
                exact ⟨by rw [HBA.out]; simp [*], rfl⟩
              · skip
                cases ek
                · skip
                  go_wp2
                  go_ret
                  exact ⟨by rw [HBA.out]; simp [*], rfl⟩
                · skip
                  cases b8 : (st == 0)
                  · skip
                    go_wp2
                    go_ret
                    exact ⟨by rw [HBA.out]; simp [*], rfl⟩
                  · skip
                    go_wp2
                    go_ret
                    exact ⟨by rw [HBA.out]; simp [*], rfl⟩
            · skip
              cases ek
              · skip
                go_wp2
                go_ret
                exact ⟨by rw [HBA.out]; simp [*], rfl⟩
              · skip
                cases b8 : (st == 0)
                · skip
                  go_wp2
                  go_ret
                  exact ⟨by rw [HBA.out]; simp [*], rfl⟩
                · skip
                  go_wp2
                  go_ret
                  exact ⟨by rw [HBA.out]; simp [*], rfl⟩
        · skip
          cases b6 : (kind == 6)
          · skip
            cases b7 : ((n : Int) == 0)
            · skip
              go_wp2
              go_ret
              exact ⟨by rw [HBA.out]; simp [*], rfl⟩
            · skip
              cases ek
              · skip
                go_wp2
                go_ret
                exact ⟨by rw [HBA.out]; simp [*], rfl⟩
              · skip
                cases b8 : (st == 0)
                · skip
                  go_wp2
                  go_ret
                  exact ⟨by rw [HBA.out]; simp [*], rfl⟩
                · skip
                  go_wp2
                  go_ret
                  exact ⟨by rw [HBA.out]; simp [*], rfl⟩
          · skip
            cases ek
            · skip
              go_wp2
              go_ret
              exact ⟨by rw [HBA.out]; simp [*], rfl⟩
            · skip
              cases b8 : (st == 0)
              · skip
                go_wp2
                go_ret
                exact ⟨by rw [HBA.out]; simp [*], rfl⟩
              · skip
                go_wp2
                go_ret
                exact ⟨by rw [HBA.out]; simp [*], rfl⟩
end Gr
end Go.Proofs.YtepfkfhbkbkepaaDoor
