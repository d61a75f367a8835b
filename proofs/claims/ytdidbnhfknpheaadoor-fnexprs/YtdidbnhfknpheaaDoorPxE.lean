/- The program's reading: takeNumber. -/
import Derived.Test.YtdidbnhfknpheaaDoorPxD
namespace Go.Proofs.YtdidbnhfknpheaaDoor
open Go.RowKit
set_option linter.unusedVariables false
namespace Ex
open Nd (NodeD)
theorem sl_pre (d r : List UInt8) (w : World) (hl : (d ++ r).length ≤ 1000) : Sem.run Tryd.prog (Instr.slice 9 (.string (str (d ++ r))) none (some (.int .i64 (IntKind.i64.wrap (((d ++ r).length : Int) - (r.length : Int))))) none) w = .ok (.string (str d)) w := by
  have e : IntKind.i64.wrap (((d ++ r).length : Int) - (r.length : Int)) = (d.length : Int) := by
    rw [List.length_append] at hl ⊢
    rw [IntWalk.i64_in _ (by omega)]
    omega
  rw [e]
  have hs : (str (d ++ r)).size = d.length + r.length := by rw [str_size, List.length_append]
  have hx : (str (d ++ r)).extract 0 d.length = str d := by
    apply ByteArray.ext
    simp [str]
  simp [Instr.slice, Instr.sliceBounds, Instr.sliceBound, run_underlying Tryd.underlying9, asIntOf, hs, hx]
theorem num_app {most : Nat} {d r : List UInt8} (hd : ∀ b ∈ d, isD b = true) (hr : stops r) : num most (d ++ r) = if numBad most d = true then none else some (valD d, r) := by
  unfold num
  obtain ⟨e1, e2⟩ := tw_append hd hr
  rw [e1, e2]
theorem form_leaf {k : Int} (hk : k = 1 ∨ k = 2) (n : Int) : form ⟨k, n, 0, 0⟩ = true := by
  rcases hk with rfl | rfl <;> simp [form, has, inR]
def numPost (most : Nat) (k : Int) (rest : List UInt8) (ns : List NodeD) (R : Nat) (e : Ending) (w' : World) : Prop :=
  (∃ (n : Nat) (r : List UInt8), num most rest = some (n, r) ∧ ns.length < 16 ∧ inside ⟨k, n, 0, 0⟩ ns.length = true ∧ e = .returned (.tuple #[.int .i64 (ns.length : Int), .bool true]) ∧ Rd w' R r (ns ++ [⟨k, n, 0, 0⟩])) ∨
  ((∀ (n : Nat) (r : List UInt8), num most rest = some (n, r) → ¬ (ns.length < 16 ∧ inside ⟨k, n, 0, 0⟩ ns.length = true)) ∧ e = .returned (.tuple #[.int .i64 0, .bool false]))
set_option maxRecDepth 100000 in
set_option maxHeartbeats 4000000 in
theorem implTakeNumber (R : Nat) (most : Nat) (k : Int) (d r : List UInt8) (ns : List NodeD) (w : World) (h : Rd w R (d ++ r) ns) (hk : k = 1 ∨ k = 2) (hd : ∀ b ∈ d, isD b = true) (hr : stops r) (hl : (d ++ r).length ≤ 1000) (h16 : ns.length ≤ 16) (h1 : 1 ≤ most) (h4 : most ≤ 4) :
    Calls Tryd.prog 28 #[.pointer (some ⟨R, 0, none⟩), .int .i64 k, .int .i64 (most : Int)] w fun e w' => numPost most k (d ++ r) ns R e w' ∧ Below R w w' := by
  obtain ⟨c0, f0, f1, a, cap, c1⟩ := h.c0
  have hlt := h.lt
  have HT := hid (implTrim (d ++ r) w)
  rw [(tw_append hd hr).2] at HT
  have HN := hid (fun w' => implNumber most d w' hd (by rw [List.length_append] at hl; omega) h1 h4)
  have HU := hid (num_app (most := most) hd hr)
  have HR := hid h
  have e1 : (str (d ++ r)).size = (d ++ r).length := str_size _
  have e2 : (str r).size = r.length := str_size _
  have hsl := fun w => sl_pre d r w hl
  clear h hd hr
  generalize hrest : d ++ r = rest at *
  have HRE := hid hrest
  clear hrest
  go_enter Tryd.func28, Tryd.ntmps28
  go_wp2_with fail
  refine HT.out.mono ?_
  rintro e w1 ⟨rfl, hb1⟩
  have d0 := kept_cell hb1 hlt c0
  have df := kept_free hb1 hlt f0
  have HR1 := hid (HR.out.below hb1)
  have hl1 : R < w1.heap.size := by have := hb1.size; omega
  have HB1 := hid (hb1.mono (Nat.le_of_lt hlt))
  clear c0 c1 f0 f1 HT hb1 HR
  generalize str rest = sr at *
  generalize str d = sd at *
  cases hnb : numBad most d
  · have HN2 : Hid (∀ w', Calls Tryd.prog 41 #[.string sd, .int .i64 (most : Int)] w' fun e w'' => e = .returned (.tuple #[.int .i64 (valD d : Int), .bool true]) ∧ w'' = w') := hid (fun w' => (HN.out w').mono (fun e w'' ⟨h1, h2⟩ => ⟨by
      rcases h1 with ⟨h3, _⟩ | ⟨_, h3⟩
      · rw [hnb] at h3; cases h3
      · exact h3, h2⟩))
    have HU2 : Hid (num most rest = some (valD d, r)) := hid (by rw [HU.out, hnb]; rfl)
    clear HN HU hnb
    generalize valD d = n at *
    go_wp2
    go_region_held3 (fun wx => wx.cell? ⟨R, 0, none⟩ = some (.string sr)) (first | assumption | (simp [*]; done)) (first | (go_at_call 41; refine (HN2.out _).mono ?_; rintro e w2 ⟨rfl, rfl⟩))
    have HRS : Hid (Rd (w1.drew.setCell ⟨R, 0, none⟩ (.string (str r))) R r ns) := hid (Rd.setRest (w := w1.drew) (show Rd w1.drew R rest ns from HR1.out) r)
    have HBS : Hid (Below R w (w1.drew.setCell ⟨R, 0, none⟩ (.string (str r)))) := hid (HB1.out.drew.setCell (Nat.le_refl _) _)
    have hlS : R < (w1.drew.setCell ⟨R, 0, none⟩ (.string (str r))).heap.size := by simpa [World.setCell] using hl1
    have hfm := form_leaf hk (n : Int)
    by_cases hg : ns.length < 16 ∧ inside ⟨k, (n : Int), 0, 0⟩ ns.length = true
    · have HA := hid (addGood R r ns ⟨k, (n : Int), 0, 0⟩ _ HRS.out hfm hg.1 hg.2)
      have HG := hid hg
      clear hfm hg
      go_wp2_with fail
      refine HA.out.mono ?_
      rintro e w3 ⟨rfl, hr3, hb3⟩
      have HR3 := hid hr3
      clear hr3
      go_wp2
      go_ret2
      exact ⟨.inl ⟨n, r, HU2.out, HG.out.1, HG.out.2, rfl, HR3.out⟩, HBS.out.trans hb3⟩
    · have HA := hid (addBad R r ns ⟨k, (n : Int), 0, 0⟩ _ HRS.out hfm h16 (by
        by_cases c : ns.length = 16
        · exact .inl c
        · refine .inr ?_
          cases hi : inside ⟨k, (n : Int), 0, 0⟩ ns.length
          · rfl
          · exact absurd ⟨by omega, hi⟩ hg))
      have HG := hid hg
      clear hfm hg
      go_wp2_with fail
      refine HA.out.mono ?_
      rintro e w3 ⟨rfl, hb3⟩
      go_wp2
      go_ret2
      refine ⟨.inr ⟨fun n' r' h => ?_, rfl⟩, HBS.out.trans (hb3.mono (Nat.le_of_lt hlS))⟩
      rw [HU2.out] at h
      cases h
      exact HG.out
  · have HN2 : Hid (∀ w', Calls Tryd.prog 41 #[.string sd, .int .i64 (most : Int)] w' fun e w'' => e = .returned (.tuple #[.int .i64 0, .bool false]) ∧ w'' = w') := hid (fun w' => (HN.out w').mono (fun e w'' ⟨h1, h2⟩ => ⟨by
      rcases h1 with ⟨_, h3⟩ | ⟨h3, _⟩
      · exact h3
      · exact absurd (h3.symm.trans hnb) (by decide), h2⟩))
    have HU2 : Hid (num most rest = none) := hid (by rw [HU.out, hnb]; rfl)
    clear HN HU hnb
    go_wp2
    go_region_held3 (fun wx => wx.cell? ⟨R, 0, none⟩ = some (.string sr)) (first | assumption | (simp [*]; done)) (first | (go_at_call 41; refine (HN2.out _).mono ?_; rintro e w2 ⟨rfl, rfl⟩))
    go_wp2
    go_ret2
    exact ⟨.inr ⟨fun n r' h => absurd (HU2.out.symm.trans h) (by simp), rfl⟩, HB1.out.drew⟩
end Ex
end Go.Proofs.YtdidbnhfknpheaaDoor
