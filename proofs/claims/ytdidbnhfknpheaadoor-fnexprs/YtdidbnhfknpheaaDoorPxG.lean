/- The program's reading: takeTerm, ParseExpr. -/
import Derived.Test.YtdidbnhfknpheaaDoorPxF
namespace Go.Proofs.YtdidbnhfknpheaaDoor
open Go.RowKit
set_option linter.unusedVariables false
namespace Ex
open Nd (NodeD)
theorem tw_stops (l : List UInt8) : stops (l.dropWhile isD) := by
  induction l with
  | nil => intro b s h; simp at h
  | cons c l ih =>
    rw [List.dropWhile_cons]
    split
    · exact ih
    · rename_i h
      intro b s e
      cases e
      simpa using h
theorem const_ok {n : Nat} {i : Int} (h : inside ⟨1, (n : Int), 0, 0⟩ i = true) : (Tm.const (n : Int)).ok := by
  unfold inside wide at h
  simp only [Tm.ok]
  simp [inR] at h
  omega
theorem var_ok {n : Nat} {i : Int} (h : inside ⟨2, (n : Int), 0, 0⟩ i = true) : (Tm.var (n : Int)).ok := by
  unfold inside wide at h
  simp only [Tm.ok]
  simp [inR] at h
  omega
theorem ok_const {n : Nat} {i : Int} (h : (Tm.const (n : Int)).ok) : inside ⟨1, (n : Int), 0, 0⟩ i = true := by
  simp only [Tm.ok] at h
  unfold inside wide far
  rw [leaf_two (.inl rfl)]
  simp [inR]
  omega
theorem ok_var {n : Nat} {i : Int} (h : (Tm.var (n : Int)).ok) : inside ⟨2, (n : Int), 0, 0⟩ i = true := by
  simp only [Tm.ok] at h
  unfold inside wide far
  rw [leaf_two (.inr rfl)]
  simp [inR]
  omega
/-- From a number's reading to a term's. -/
theorem num_const {f R : Nat} {rest : List UInt8} {ns : List NodeD} {e : Ending} {w : World} (hg : gp f rest = (num 4 rest).map fun p => (.const p.1, p.2)) (h : numPost 4 1 rest ns R e w) : termPost f rest ns R e w := by
  rcases h with ⟨n, r, h1, h2, h3, rfl, h4⟩ | ⟨h1, rfl⟩
  · refine .inl ⟨.const (n : Int), r, by rw [hg, h1]; rfl, const_ok h3, by simp only [Tm.size]; omega, by simp only [Tm.size]; rfl, h4⟩
  · refine .inr ⟨fun t r ht => ?_, 0, rfl⟩
    rw [hg] at ht
    cases h2 : num 4 rest with
    | none => rw [h2] at ht; cases ht
    | some p =>
      rw [h2] at ht
      simp only [Option.map_some, Option.some.injEq, Prod.mk.injEq] at ht
      obtain ⟨rfl, rfl⟩ := ht
      rintro ⟨h3, h4⟩
      simp only [Tm.size] at h4
      exact h1 p.1 p.2 h2 ⟨by omega, ok_const h3⟩
theorem num_var {f R : Nat} {rest r0 : List UInt8} {ns : List NodeD} {e : Ending} {w : World} (hg : gp f rest = (num 1 r0).map fun p => (.var p.1, p.2)) (h : numPost 1 2 r0 ns R e w) : termPost f rest ns R e w := by
  rcases h with ⟨n, r, h1, h2, h3, rfl, h4⟩ | ⟨h1, rfl⟩
  · refine .inl ⟨.var (n : Int), r, by rw [hg, h1]; rfl, var_ok h3, by simp only [Tm.size]; omega, by simp only [Tm.size]; rfl, h4⟩
  · refine .inr ⟨fun t r ht => ?_, 0, rfl⟩
    rw [hg] at ht
    cases h2 : num 1 r0 with
    | none => rw [h2] at ht; cases ht
    | some p =>
      rw [h2] at ht
      simp only [Option.map_some, Option.some.injEq, Prod.mk.injEq] at ht
      obtain ⟨rfl, rfl⟩ := ht
      rintro ⟨h3, h4⟩
      simp only [Tm.size] at h4
      exact h1 p.1 p.2 h2 ⟨by omega, ok_var h3⟩
theorem numAt (R most : Nat) (k : Int) (rest : List UInt8) (ns : List NodeD) (w : World) (h : Rd w R rest ns) (hk : k = 1 ∨ k = 2) (hl : rest.length ≤ 1000) (h16 : ns.length ≤ 16) (h1 : 1 ≤ most) (h4 : most ≤ 4) :
    Calls Tryd.prog 28 #[.pointer (some ⟨R, 0, none⟩), .int .i64 k, .int .i64 (most : Int)] w fun e w' => numPost most k rest ns R e w' ∧ Below R w w' := by
  have e : rest.takeWhile isD ++ rest.dropWhile isD = rest := List.takeWhile_append_dropWhile
  have := implTakeNumber R most k (rest.takeWhile isD) (rest.dropWhile isD) ns w (by rw [e]; exact h) hk (tw_all rest) (tw_stops rest) (by rw [e]; exact hl) h16 h1 h4
  rwa [e] at this
set_option maxRecDepth 100000 in
set_option maxHeartbeats 4000000 in
theorem implTake (R : Nat) : ∀ (f : Nat), TermAt f R
  | 0 => fun rest ns w h1 => by omega
  | f + 1 => fun rest ns w h1 h2 h16 h => by
    have IH := hid (implTake R f)
    have hlt := h.lt
    have HR := hid h
    clear h
    by_cases c1 : ∃ r, rest = 40 :: r
    · obtain ⟨r, rfl⟩ := c1
      simp only [List.length_cons] at h1 h2
      have HY := hid (takeYes R 40 r ns w HR.out (by omega))
      go_enter Tryd.func17, Tryd.ntmps17
      go_wp2_with fail
      refine HY.out.mono ?_
      rintro e w1 ⟨rfl, hr1, hb1⟩
      have HP := hid (implPairTake f R IH.out r ns w1 (by omega) (by omega) h16 hr1)
      clear hr1 HY IH
      go_wp2_with fail
      refine HP.out.mono ?_
      rintro e w2 ⟨hp, hb2⟩
      have HB := hid (hb1.trans hb2)
      have HPP := hid hp
      rcases hp with ⟨t, r1, _, _, _, rfl, _⟩ | ⟨_, x, rfl⟩
      · go_wp2
        go_ret2
        exact ⟨HPP.out, HB.out⟩
      · go_wp2
        go_ret2
        exact ⟨HPP.out, HB.out⟩
    · have HN1 := hid (takeNo R 40 rest ns w HR.out (by omega) (fun r e => c1 ⟨r, e⟩))
      by_cases c2 : ∃ r, rest = 33 :: r
      · obtain ⟨r, rfl⟩ := c2
        simp only [List.length_cons] at h1 h2
        have HY := hid (takeYes R 33 r ns w HR.out (by omega))
        clear c1
        go_enter Tryd.func17, Tryd.ntmps17
        go_wp2_with fail
        refine HN1.out.mono ?_
        rintro e w0 ⟨rfl, rfl⟩
        go_wp2_with fail
        refine HY.out.mono ?_
        rintro e w1 ⟨rfl, hr1, hb1⟩
        have HP := hid (implNot f R IH.out r ns w1 (by omega) (by omega) h16 hr1)
        clear hr1 HY IH
        go_wp2_with fail
        refine HP.out.mono ?_
        rintro e w2 ⟨hp, hb2⟩
        have HB := hid (hb1.trans hb2)
        have HPP := hid hp
        rcases hp with ⟨t, r1, _, _, _, rfl, _⟩ | ⟨_, x, rfl⟩
        · go_wp2
          go_ret2
          exact ⟨HPP.out, HB.out⟩
        · go_wp2
          go_ret2
          exact ⟨HPP.out, HB.out⟩
      · have HN2 := hid (takeNo R 33 rest ns w HR.out (by omega) (fun r e => c2 ⟨r, e⟩))
        by_cases c3 : ∃ r, rest = 118 :: r
        · obtain ⟨r, rfl⟩ := c3
          simp only [List.length_cons] at h1 h2
          have HY := hid (takeYes R 118 r ns w HR.out (by omega))
          clear c1 c2 IH
          go_enter Tryd.func17, Tryd.ntmps17
          go_wp2_with fail
          refine HN1.out.mono ?_
          rintro e w0 ⟨rfl, rfl⟩
          go_wp2_with fail
          refine HN2.out.mono ?_
          rintro e w0 ⟨rfl, rfl⟩
          go_wp2_with fail
          refine HY.out.mono ?_
          rintro e w1 ⟨rfl, hr1, hb1⟩
          have HP := hid (numAt R 1 2 r ns w1 hr1 (.inr rfl) (by omega) h16 (by omega) (by omega))
          clear hr1 HY
          go_wp2_with fail
          refine HP.out.mono ?_
          rintro e w2 ⟨hp, hb2⟩
          have HB := hid (hb1.trans hb2)
          have HPP := hid (num_var (f := f + 1) (rest := 118 :: r) gp_var_eq hp)
          rcases hp with ⟨n, r1, _, _, _, rfl, _⟩ | ⟨_, rfl⟩
          · go_wp2
            go_ret2
            exact ⟨HPP.out, HB.out⟩
          · go_wp2
            go_ret2
            exact ⟨HPP.out, HB.out⟩
        · have HN3 := hid (takeNo R 118 rest ns w HR.out (by omega) (fun r e => c3 ⟨r, e⟩))
          have HG : Hid (gp (f + 1) rest = (num 4 rest).map fun p => (.const p.1, p.2)) := hid (by
            cases rest with
            | nil => rfl
            | cons b r => exact gp_const_eq (fun e => c1 ⟨r, by rw [e]⟩) (fun e => c2 ⟨r, by rw [e]⟩) (fun e => c3 ⟨r, by rw [e]⟩))
          have HP := hid (numAt R 4 1 rest ns w HR.out (.inl rfl) (by omega) h16 (by omega) (by omega))
          clear c1 c2 c3 IH
          go_enter Tryd.func17, Tryd.ntmps17
          go_wp2_with fail
          refine HN1.out.mono ?_
          rintro e w0 ⟨rfl, rfl⟩
          go_wp2_with fail
          refine HN2.out.mono ?_
          rintro e w0 ⟨rfl, rfl⟩
          go_wp2_with fail
          refine HN3.out.mono ?_
          rintro e w0 ⟨rfl, rfl⟩
          go_wp2_with fail
          refine HP.out.mono ?_
          rintro e w2 ⟨hp, hb2⟩
          have HPP := hid (num_const (f := f + 1) HG.out hp)
          rcases hp with ⟨n, r1, _, _, _, rfl, _⟩ | ⟨_, rfl⟩
          · go_wp2
            go_ret2
            exact ⟨HPP.out, hb2⟩
          · go_wp2
            go_ret2
            exact ⟨HPP.out, hb2⟩
/-- What ParseExpr answers. -/
def PxPost (l : List UInt8) (w : World) (e : Ending) (w' : World) : Prop :=
  (∃ u, e = .returned (.agg #[.int .i64 (pCode l), u]) ∧ w'.ownsRow (w.heap.size + 1) 35 4 u (pNodes l).length (nvals (pNodes l))) ∧ Below w.heap.size w w'
end Ex
end Go.Proofs.YtdidbnhfknpheaaDoor
