/- Laid together: PxF, PxG. -/
import Derived.Test.YtahkpgffoiaeiaaGreatDoorJProcOf23
/- The program's reading: takeTerm, takePair, takeNot. -/
namespace Go.Proofs.YtahkpgffoiaeiaaGreatDoor
open Go.RowKit
set_option linter.unusedVariables false
namespace Ex
open Nd (NodeD)
theorem gp_pair_inv {f : Nat} {r r' : List UInt8} {t : Tm} (h : gp (f + 1) (40 :: r) = some (t, r')) : ∃ a r1 k r2 c, gp f r = some (a, r1) ∧ signF r1 = some (k, r2) ∧ gp f r2 = some (c, 41 :: r') ∧ t = .pair k a c := by
  rw [gp, if_pos rfl] at h
  cases h1 : gp f r with
  | none => rw [h1] at h; cases h
  | some p =>
    obtain ⟨a, r1⟩ := p
    rw [h1, Option.bind_some] at h
    cases r1 with
    | nil => cases h
    | cons s r2 =>
      simp only at h
      cases h2 : kindOf s with
      | none => rw [h2] at h; cases h
      | some k =>
        rw [h2, Option.bind_some] at h
        cases h3 : gp f r2 with
        | none => rw [h3] at h; cases h
        | some q =>
          obtain ⟨c, r3⟩ := q
          rw [h3, Option.bind_some] at h
          cases r3 with
          | nil => cases h
          | cons x r4 =>
            simp only at h
            by_cases c2 : x = 41
            · rw [if_pos c2] at h
              simp only [Option.some.injEq, Prod.mk.injEq] at h
              obtain ⟨rfl, rfl⟩ := h
              exact ⟨a, s :: r2, k, r2, c, rfl, by simp [signF, h2], by rw [h3, c2], rfl⟩
            · rw [if_neg c2] at h; cases h
theorem gp_pair_mk {f : Nat} {r r1 r2 r' : List UInt8} {a c : Tm} {k : Int} (h1 : gp f r = some (a, r1)) (h2 : signF r1 = some (k, r2)) (h3 : gp f r2 = some (c, 41 :: r')) : gp (f + 1) (40 :: r) = some (.pair k a c, r') := by
  rw [gp, if_pos rfl, h1, Option.bind_some]
  cases r1 with
  | nil => cases h2
  | cons s r3 =>
    simp only [signF] at h2
    cases h4 : kindOf s with
    | none => rw [h4] at h2; cases h2
    | some k' =>
      rw [h4] at h2
      simp only [Option.map_some, Option.some.injEq, Prod.mk.injEq] at h2
      obtain ⟨rfl, rfl⟩ := h2
      simp only
      rw [h4, Option.bind_some, h3, Option.bind_some]
      simp only
      rw [if_pos trivial]
theorem gp_not_eq {f : Nat} {r : List UInt8} : gp (f + 1) (33 :: r) = (gp f r).map fun p => (.not p.1, p.2) := by rw [gp, if_neg (by decide), if_pos rfl]
theorem gp_var_eq {f : Nat} {r : List UInt8} : gp (f + 1) (118 :: r) = (num 1 r).map fun p => (.var p.1, p.2) := by rw [gp, if_neg (by decide), if_neg (by decide), if_pos rfl]
theorem gp_const_eq {f : Nat} {b : UInt8} {r : List UInt8} (h1 : b ≠ 40) (h2 : b ≠ 33) (h3 : b ≠ 118) : gp (f + 1) (b :: r) = (num 4 (b :: r)).map fun p => (.const p.1, p.2) := by rw [gp, if_neg h1, if_neg h2, if_neg h3]
theorem sign_in {r1 r2 : List UInt8} {k : Int} (h : signF r1 = some (k, r2)) : 3 ≤ k ∧ k ≤ 9 ∧ r1.length = r2.length + 1 := by
  cases r1 with
  | nil => cases h
  | cons s r3 =>
    simp only [signF] at h
    cases h4 : kindOf s with
    | none => rw [h4] at h; cases h
    | some k' =>
      rw [h4] at h
      simp only [Option.map_some, Option.some.injEq, Prod.mk.injEq] at h
      obtain ⟨rfl, rfl⟩ := h
      exact ⟨(kind_in h4).1, (kind_in h4).2.1, rfl⟩
theorem gp_len {f : Nat} {l r : List UInt8} {t : Tm} (h : gp f l = some (t, r)) : r.length ≤ l.length := by
  have := (gp_txt f l t r h).1
  rw [this, List.length_append]; omega
def termPost (f : Nat) (rest : List UInt8) (ns : List NodeD) (R : Nat) (e : Ending) (w' : World) : Prop :=
  (∃ (t : Tm) (r : List UInt8), gp f rest = some (t, r) ∧ t.ok ∧ ns.length + t.size ≤ 16 ∧ e = .returned (.tuple #[.int .i64 ((ns.length + t.size - 1 : Nat) : Int), .bool true]) ∧ Rd w' R r (ns ++ t.nodes ns.length)) ∨
  ((∀ (t : Tm) (r : List UInt8), gp f rest = some (t, r) → ¬ (t.ok ∧ ns.length + t.size ≤ 16)) ∧ ∃ x : Int, e = .returned (.tuple #[.int .i64 x, .bool false]))
theorem fail_post {f : Nat} {rest : List UInt8} {ns : List NodeD} {R : Nat} {e : Ending} {w' : World} (h : ∀ (t : Tm) (r : List UInt8), gp f rest = some (t, r) → ¬ (t.ok ∧ ns.length + t.size ≤ 16)) {x : Int} (he : e = .returned (.tuple #[.int .i64 x, .bool false])) : termPost f rest ns R e w' := .inr ⟨h, x, he⟩
def TermAt (f R : Nat) : Prop := ∀ (rest : List UInt8) (ns : List NodeD) (w : World), rest.length < f → rest.length ≤ 1000 → ns.length ≤ 16 → Rd w R rest ns → Calls Tryz.prog 117 #[.pointer (some ⟨R, 0, none⟩)] w fun e w' => termPost f rest ns R e w' ∧ Below R w w'
theorem inside_pair {k : Int} {l r m : Nat} (h1 : 3 ≤ k) (h2 : k ≤ 9) (hl : l < m) (hr : r < m) : inside ⟨k, 0, (l : Int), (r : Int)⟩ (m : Int) = true := by
  unfold inside wide far
  have e1 : (k == 1) = false := by simp; omega
  have e2 : (k == 2) = false := by simp; omega
  simp only [e1, e2, Bool.false_and, Bool.or_false, Bool.not_false, Bool.true_and, Bool.not_eq_true', Bool.or_eq_false_iff, Bool.and_eq_false_iff, Bool.not_eq_false']
  exact ⟨.inr (inR_iff.2 (by omega)), .inr (inR_iff.2 (by omega))⟩
theorem inside_not {l m : Nat} (hl : l < m) : inside ⟨10, 0, (l : Int), 0⟩ (m : Int) = true := by
  unfold inside wide far
  rw [not_two10 rfl]
  simp [inR]
  omega
theorem form_pair {k : Int} {l r : Int} (h1 : 3 ≤ k) (h2 : k ≤ 9) : form ⟨k, 0, l, r⟩ = true := by
  unfold form has
  have e1 : decide (k ≤ 2) = false := by simp; omega
  have e2 : (k == 10) = false := by simp; omega
  rw [inR_iff.2 (show 1 ≤ k ∧ k ≤ 10 by omega)]
  simp [e1, e2]
set_option maxRecDepth 100000 in
set_option maxHeartbeats 4000000 in
theorem implNot (f R : Nat) (IH : TermAt f R) (r : List UInt8) (ns : List NodeD) (w : World) (h1 : r.length < f) (h2 : r.length ≤ 1000) (h16 : ns.length ≤ 16) (h : Rd w R r ns) :
    Calls Tryz.prog 127 #[.pointer (some ⟨R, 0, none⟩)] w fun e w' => termPost (f + 1) (33 :: r) ns R e w' ∧ Below R w w' := by
  have HT := hid (IH r ns w h1 h2 h16 h)
  have hlt := h.lt
  clear h IH
  go_enter Tryz.func127, Tryz.ntmps127
  go_wp2_with fail
  refine HT.out.mono ?_
  rintro e w1 ⟨hp, hb1⟩
  clear HT
  rcases hp with ⟨t, r1, hg, hok, hsz, rfl, hr1⟩ | ⟨hno, x, rfl⟩
  · have hpos := size_pos t
    have hlen : (ns ++ t.nodes ns.length).length = ns.length + t.size := by rw [List.length_append, nodes_len]
    have hlt1 := hr1.lt
    have HG : Hid (gp (f + 1) (33 :: r) = some (.not t, r1)) := hid (by rw [gp_not_eq, hg]; rfl)
    have HOK := hid hok
    have HR1 := hid hr1
    have HNN : Hid ((Tm.not t).nodes ns.length = t.nodes ns.length ++ [⟨10, 0, ((ns.length + t.size - 1 : Nat) : Int), 0⟩]) := hid rfl
    have HSZ : Hid ((Tm.not t).size = t.size + 1) := hid rfl
    by_cases hb : ns.length + t.size < 16
    · have HA := hid (addGood R r1 (ns ++ t.nodes ns.length) ⟨10, 0, ((ns.length + t.size - 1 : Nat) : Int), 0⟩ w1 HR1.out (by simp [form, has, inR]) (by omega) (inside_not (by omega)))
      rw [hlen] at HA
      clear hg hok hr1
      generalize hm : ns.length + t.size - 1 = m at *
      have HM := hid hm
      clear hm
      go_wp2_with fail
      refine HA.out.mono ?_
      rintro e w2 ⟨rfl, hr2, hb2⟩
      have HR2 := hid hr2
      clear hr2
      go_wp2
      go_ret2
      refine ⟨.inl ⟨.not t, r1, HG.out, ⟨HOK.out, rfl, rfl⟩, by rw [HSZ.out]; omega, ?_, ?_⟩, hb1.trans hb2⟩
      · rw [HSZ.out, show ns.length + (t.size + 1) - 1 = ns.length + t.size by omega]; rfl
      · rw [HNN.out, ← List.append_assoc]; exact HR2.out
    · have HA := hid (addBad R r1 (ns ++ t.nodes ns.length) ⟨10, 0, ((ns.length + t.size - 1 : Nat) : Int), 0⟩ w1 HR1.out (by simp [form, has, inR]) (by omega) (.inl (by omega)))
      clear hg hok hr1
      generalize hm : ns.length + t.size - 1 = m at *
      go_wp2_with fail
      refine HA.out.mono ?_
      rintro e w2 ⟨rfl, hb2⟩
      go_wp2
      go_ret2
      refine ⟨fail_post (fun t' r' hg' => ?_) rfl, hb1.trans (hb2.mono (Nat.le_of_lt hlt1))⟩
      rw [HG.out] at hg'
      cases hg'
      rintro ⟨_, h3⟩
      rw [HSZ.out] at h3
      omega
  · have HN := hid hno
    clear hno
    go_wp2
    go_ret2
    refine ⟨fail_post (fun t' r' hg' => ?_) rfl, hb1⟩
    rw [gp_not_eq] at hg'
    cases h1 : gp f r with
    | none => rw [h1] at hg'; cases hg'
    | some p =>
      rw [h1] at hg'
      simp only [Option.map_some, Option.some.injEq, Prod.mk.injEq] at hg'
      obtain ⟨rfl, rfl⟩ := hg'
      rintro ⟨h3, h4⟩
      simp only [Tm.size] at h4
      exact HN.out p.1 p.2 h1 ⟨h3.1, by omega⟩
set_option maxRecDepth 100000 in
set_option maxHeartbeats 8000000 in
theorem implPairTake (f R : Nat) (IH : TermAt f R) (r : List UInt8) (ns : List NodeD) (w : World) (h1 : r.length < f) (h2 : r.length ≤ 1000) (h16 : ns.length ≤ 16) (h : Rd w R r ns) :
    Calls Tryz.prog 126 #[.pointer (some ⟨R, 0, none⟩)] w fun e w' => termPost (f + 1) (40 :: r) ns R e w' ∧ Below R w w' := by
  have HT := hid (IH r ns w h1 h2 h16 h)
  have HIH := hid IH
  have hlt := h.lt
  clear h IH
  go_enter Tryz.func126, Tryz.ntmps126
  go_wp2_with fail
  refine HT.out.mono ?_
  rintro e w1 ⟨hp, hb1⟩
  clear HT
  rcases hp with ⟨a, r1, hg, hok, hsz, rfl, hr1⟩ | ⟨hno, x, rfl⟩
  · have hpa := size_pos a
    have hlen1 : (ns ++ a.nodes ns.length).length = ns.length + a.size := by rw [List.length_append, nodes_len]
    have hl1 := gp_len hg
    have hlt1 := hr1.lt
    have HSG := hid (takeSign R r1 (ns ++ a.nodes ns.length) w1 hr1 (by omega))
    have HGA := hid hg
    have HOKA := hid hok
    clear hg hok hr1
    generalize hm : ns.length + a.size - 1 = m at *
    have HM := hid hm
    clear hm
    go_wp2_with fail
    refine HSG.out.mono ?_
    rintro e w2 hs
    clear HSG
    rcases hs with ⟨k, r2, hs, rfl, hr2, hb2⟩ | ⟨hs, rfl, rfl⟩
    · obtain ⟨hk3, hk9, hl2⟩ := sign_in hs
      have hlt2 := hr2.lt
      have HS := hid hs
      have HT2 := hid (HIH.out r2 (ns ++ a.nodes ns.length) w2 (by omega) (by omega) (by omega) hr2)
      clear hs hr2 HIH
      go_wp2_with fail
      refine HT2.out.mono ?_
      rintro e w3 ⟨hp, hb3⟩
      clear HT2
      have HB3 := hid (hb1.trans (hb2.trans hb3))
      rcases hp with ⟨c, r3, hg, hok, hsz2, rfl, hr3⟩ | ⟨hno, x, rfl⟩
      · have hpc := size_pos c
        have hlen2 : (ns ++ a.nodes ns.length ++ c.nodes (ns ++ a.nodes ns.length).length).length = ns.length + a.size + c.size := by rw [List.length_append, nodes_len, hlen1]
        have hl3 := gp_len hg
        have hlt3 := hr3.lt
        rw [hlen1] at hsz2
        have HGC := hid hg
        have HOKC := hid hok
        have HR3 := hid hr3
        have HNN : Hid ((Tm.pair k a c).nodes ns.length = a.nodes ns.length ++ c.nodes (ns.length + a.size) ++ [⟨k, 0, ((ns.length + a.size - 1 : Nat) : Int), ((ns.length + a.size + c.size - 1 : Nat) : Int)⟩]) := hid rfl
        have HSZ : Hid ((Tm.pair k a c).size = a.size + c.size + 1) := hid rfl
        clear hg hok hr3
        by_cases h41 : ∃ r4, r3 = 41 :: r4
        · obtain ⟨r4, rfl⟩ := h41
          have HY := hid (takeYes R 41 r4 (ns ++ a.nodes ns.length ++ c.nodes (ns ++ a.nodes ns.length).length) w3 HR3.out (by simp at hl3; omega))
          have HG : Hid (gp (f + 1) (40 :: r) = some (.pair k a c, r4)) := hid (gp_pair_mk HGA.out HS.out HGC.out)
          rw [hlen1] at HY
          generalize hm2 : (ns ++ a.nodes ns.length).length + c.size - 1 = m2 at *
          have HM2 : Hid (ns.length + a.size + c.size - 1 = m2) := hid (by rw [← hm2, hlen1])
          clear hm2
          go_wp2_with fail
          refine HY.out.mono ?_
          rintro e w4 ⟨rfl, hr4, hb4⟩
          have HR4 := hid hr4
          have hlt4 := hr4.lt
          have HB4 := hid (HB3.out.trans hb4)
          clear HY hr4
          have hlen3 : (ns ++ a.nodes ns.length ++ c.nodes (ns.length + a.size)).length = ns.length + a.size + c.size := by rw [← hlen1]; rw [hlen1] at hlen2; rw [hlen1]; exact hlen2
          by_cases hb : ns.length + a.size + c.size < 16
          · have HA := hid (addGood R r4 (ns ++ a.nodes ns.length ++ c.nodes (ns.length + a.size)) ⟨k, 0, (m : Int), (m2 : Int)⟩ w4 HR4.out (form_pair hk3 hk9) (by omega) (inside_pair hk3 hk9 (by have := HM.out; omega) (by have := HM2.out; omega)))
            rw [hlen3] at HA
            go_wp2_with fail
            refine HA.out.mono ?_
            rintro e w5 ⟨rfl, hr5, hb5⟩
            have HR5 := hid hr5
            clear hr5 HA
            go_wp2
            go_ret2
            refine ⟨.inl ⟨.pair k a c, r4, HG.out, ⟨⟨hk3, hk9, HOKA.out, HOKC.out⟩, rfl, rfl⟩, by rw [HSZ.out]; omega, ?_, ?_⟩, HB4.out.trans hb5⟩
            · rw [HSZ.out, show ns.length + (a.size + c.size + 1) - 1 = ns.length + a.size + c.size by omega]; rfl
            · rw [HNN.out]
              have h := HR5.out
              have e1 := HM.out
              have e2 := HM2.out
              try rw [e1]
              try rw [e2]
              simpa [List.append_assoc] using h
          · have HA := hid (addBad R r4 (ns ++ a.nodes ns.length ++ c.nodes (ns.length + a.size)) ⟨k, 0, (m : Int), (m2 : Int)⟩ w4 HR4.out (form_pair hk3 hk9) (by omega) (.inl (by omega)))
            go_wp2_with fail
            refine HA.out.mono ?_
            rintro e w5 ⟨rfl, hb5⟩
            clear HA
            go_wp2
            go_ret2
            refine ⟨fail_post (fun t' r' hg' => ?_) rfl, HB4.out.trans (hb5.mono (Nat.le_of_lt hlt4))⟩
            rw [HG.out] at hg'
            cases hg'
            rintro ⟨_, h3⟩
            rw [HSZ.out] at h3
            omega
        · have HN := hid (takeNo R 41 r3 (ns ++ a.nodes ns.length ++ c.nodes (ns ++ a.nodes ns.length).length) w3 HR3.out (by omega) (fun r4 e => h41 ⟨r4, e⟩))
          have HF : Hid (∀ t' r', gp (f + 1) (40 :: r) = some (t', r') → False) := hid (fun t' r' hg' => by
            obtain ⟨a', q1, k', q2, c', e1, e2, e3, _⟩ := gp_pair_inv hg'
            rw [HGA.out] at e1; cases e1
            rw [HS.out] at e2; cases e2
            rw [HGC.out] at e3; cases e3
            exact h41 ⟨_, rfl⟩)
          clear h41
          generalize (ns ++ a.nodes ns.length).length + c.size - 1 = m2 at *
          go_wp2_with fail
          refine HN.out.mono ?_
          rintro e w4 ⟨rfl, rfl⟩
          go_wp2
          go_ret2
          exact ⟨fail_post (fun t' r' hg' => absurd hg' (fun h => HF.out t' r' h)) rfl, HB3.out⟩
      · have HN := hid hno
        clear hno
        go_wp2
        go_ret2
        refine ⟨fail_post (fun t' r' hg' => ?_) rfl, HB3.out⟩
        obtain ⟨a', q1, k', q2, c', e1, e2, e3, rfl⟩ := gp_pair_inv hg'
        rw [HGA.out] at e1; cases e1
        rw [HS.out] at e2; cases e2
        rintro ⟨h3, h4⟩
        simp only [Tm.size] at h4
        exact HN.out c' _ e3 ⟨h3.1.2.2.2, by rw [hlen1]; omega⟩
    · have HS := hid hs
      clear hs
      go_wp2
      go_ret2
      refine ⟨fail_post (fun t' r' hg' => ?_) rfl, hb1⟩
      obtain ⟨a', q1, k', q2, c', e1, e2, e3, rfl⟩ := gp_pair_inv hg'
      rw [HGA.out] at e1; cases e1
      rw [HS.out] at e2; cases e2
  · have HN := hid hno
    clear hno
    go_wp2
    go_ret2
    refine ⟨fail_post (fun t' r' hg' => ?_) rfl, hb1⟩
    obtain ⟨a', q1, k', q2, c', e1, e2, e3, rfl⟩ := gp_pair_inv hg'
    rintro ⟨h3, h4⟩
    simp only [Tm.size] at h4
    exact HN.out a' _ e1 ⟨h3.1.2.2.1, by omega⟩
end Ex
end Go.Proofs.YtahkpgffoiaeiaaGreatDoor
/- The program's reading: takeTerm, ParseExpr. -/
namespace Go.Proofs.YtahkpgffoiaeiaaGreatDoor
open Go.RowKit
set_option linter.unusedVariables false
namespace Ex
open Nd (NodeD)
theorem tw_stops (l : List UInt8) : stops (l.dropWhile isD) := by
  induction l with
  | nil => intro b s h; simp at h
  | cons c l ih =>
    rw [List.dropWhile_cons]
    split
    · exact ih
    · rename_i h
      intro b s e
      cases e
      simpa using h
theorem const_ok {n : Nat} {i : Int} (h : inside ⟨1, (n : Int), 0, 0⟩ i = true) : (Tm.const (n : Int)).ok := by
  unfold inside wide at h
  simp only [Tm.ok]
  simp [inR] at h
  omega
theorem var_ok {n : Nat} {i : Int} (h : inside ⟨2, (n : Int), 0, 0⟩ i = true) : (Tm.var (n : Int)).ok := by
  unfold inside wide at h
  simp only [Tm.ok]
  simp [inR] at h
  omega
theorem ok_const {n : Nat} {i : Int} (h : (Tm.const (n : Int)).ok) : inside ⟨1, (n : Int), 0, 0⟩ i = true := by
  simp only [Tm.ok] at h
  unfold inside wide far
  rw [leaf_two (.inl rfl)]
  simp [inR]
  omega
theorem ok_var {n : Nat} {i : Int} (h : (Tm.var (n : Int)).ok) : inside ⟨2, (n : Int), 0, 0⟩ i = true := by
  simp only [Tm.ok] at h
  unfold inside wide far
  rw [leaf_two (.inr rfl)]
  simp [inR]
  omega
/-- From a number's reading to a term's. -/
theorem num_const {f R : Nat} {rest : List UInt8} {ns : List NodeD} {e : Ending} {w : World} (hg : gp f rest = (num 4 rest).map fun p => (.const p.1, p.2)) (h : numPost 4 1 rest ns R e w) : termPost f rest ns R e w := by
  rcases h with ⟨n, r, h1, h2, h3, rfl, h4⟩ | ⟨h1, rfl⟩
  · refine .inl ⟨.const (n : Int), r, by rw [hg, h1]; rfl, const_ok h3, by simp only [Tm.size]; omega, by simp only [Tm.size]; rfl, h4⟩
  · refine .inr ⟨fun t r ht => ?_, 0, rfl⟩
    rw [hg] at ht
    cases h2 : num 4 rest with
    | none => rw [h2] at ht; cases ht
    | some p =>
      rw [h2] at ht
      simp only [Option.map_some, Option.some.injEq, Prod.mk.injEq] at ht
      obtain ⟨rfl, rfl⟩ := ht
      rintro ⟨h3, h4⟩
      simp only [Tm.size] at h4
      exact h1 p.1 p.2 h2 ⟨by omega, ok_const h3⟩
theorem num_var {f R : Nat} {rest r0 : List UInt8} {ns : List NodeD} {e : Ending} {w : World} (hg : gp f rest = (num 1 r0).map fun p => (.var p.1, p.2)) (h : numPost 1 2 r0 ns R e w) : termPost f rest ns R e w := by
  rcases h with ⟨n, r, h1, h2, h3, rfl, h4⟩ | ⟨h1, rfl⟩
  · refine .inl ⟨.var (n : Int), r, by rw [hg, h1]; rfl, var_ok h3, by simp only [Tm.size]; omega, by simp only [Tm.size]; rfl, h4⟩
  · refine .inr ⟨fun t r ht => ?_, 0, rfl⟩
    rw [hg] at ht
    cases h2 : num 1 r0 with
    | none => rw [h2] at ht; cases ht
    | some p =>
      rw [h2] at ht
      simp only [Option.map_some, Option.some.injEq, Prod.mk.injEq] at ht
      obtain ⟨rfl, rfl⟩ := ht
      rintro ⟨h3, h4⟩
      simp only [Tm.size] at h4
      exact h1 p.1 p.2 h2 ⟨by omega, ok_var h3⟩
theorem numAt (R most : Nat) (k : Int) (rest : List UInt8) (ns : List NodeD) (w : World) (h : Rd w R rest ns) (hk : k = 1 ∨ k = 2) (hl : rest.length ≤ 1000) (h16 : ns.length ≤ 16) (h1 : 1 ≤ most) (h4 : most ≤ 4) :
    Calls Tryz.prog 128 #[.pointer (some ⟨R, 0, none⟩), .int .i64 k, .int .i64 (most : Int)] w fun e w' => numPost most k rest ns R e w' ∧ Below R w w' := by
  have e : rest.takeWhile isD ++ rest.dropWhile isD = rest := List.takeWhile_append_dropWhile
  have := implTakeNumber R most k (rest.takeWhile isD) (rest.dropWhile isD) ns w (by rw [e]; exact h) hk (tw_all rest) (tw_stops rest) (by rw [e]; exact hl) h16 h1 h4
  rwa [e] at this
set_option maxRecDepth 100000 in
set_option maxHeartbeats 4000000 in
theorem implTake (R : Nat) : ∀ (f : Nat), TermAt f R
  | 0 => fun rest ns w h1 => by omega
  | f + 1 => fun rest ns w h1 h2 h16 h => by
    have IH := hid (implTake R f)
    have hlt := h.lt
    have HR := hid h
    clear h
    by_cases c1 : ∃ r, rest = 40 :: r
    · obtain ⟨r, rfl⟩ := c1
      simp only [List.length_cons] at h1 h2
      have HY := hid (takeYes R 40 r ns w HR.out (by omega))
      go_enter Tryz.func117, Tryz.ntmps117
      go_wp2_with fail
      refine HY.out.mono ?_
      rintro e w1 ⟨rfl, hr1, hb1⟩
      have HP := hid (implPairTake f R IH.out r ns w1 (by omega) (by omega) h16 hr1)
      clear hr1 HY IH
      go_wp2_with fail
      refine HP.out.mono ?_
      rintro e w2 ⟨hp, hb2⟩
      have HB := hid (hb1.trans hb2)
      have HPP := hid hp
      rcases hp with ⟨t, r1, _, _, _, rfl, _⟩ | ⟨_, x, rfl⟩
      · go_wp2
        go_ret2
        exact ⟨HPP.out, HB.out⟩
      · go_wp2
        go_ret2
        exact ⟨HPP.out, HB.out⟩
    · have HN1 := hid (takeNo R 40 rest ns w HR.out (by omega) (fun r e => c1 ⟨r, e⟩))
      by_cases c2 : ∃ r, rest = 33 :: r
      · obtain ⟨r, rfl⟩ := c2
        simp only [List.length_cons] at h1 h2
        have HY := hid (takeYes R 33 r ns w HR.out (by omega))
        clear c1
        go_enter Tryz.func117, Tryz.ntmps117
        go_wp2_with fail
        refine HN1.out.mono ?_
        rintro e w0 ⟨rfl, rfl⟩
        go_wp2_with fail
        refine HY.out.mono ?_
        rintro e w1 ⟨rfl, hr1, hb1⟩
        have HP := hid (implNot f R IH.out r ns w1 (by omega) (by omega) h16 hr1)
        clear hr1 HY IH
        go_wp2_with fail
        refine HP.out.mono ?_
        rintro e w2 ⟨hp, hb2⟩
        have HB := hid (hb1.trans hb2)
        have HPP := hid hp
        rcases hp with ⟨t, r1, _, _, _, rfl, _⟩ | ⟨_, x, rfl⟩
        · go_wp2
          go_ret2
          exact ⟨HPP.out, HB.out⟩
        · go_wp2
          go_ret2
          exact ⟨HPP.out, HB.out⟩
      · have HN2 := hid (takeNo R 33 rest ns w HR.out (by omega) (fun r e => c2 ⟨r, e⟩))
        by_cases c3 : ∃ r, rest = 118 :: r
        · obtain ⟨r, rfl⟩ := c3
          simp only [List.length_cons] at h1 h2
          have HY := hid (takeYes R 118 r ns w HR.out (by omega))
          clear c1 c2 IH
          go_enter Tryz.func117, Tryz.ntmps117
          go_wp2_with fail
          refine HN1.out.mono ?_
          rintro e w0 ⟨rfl, rfl⟩
          go_wp2_with fail
          refine HN2.out.mono ?_
          rintro e w0 ⟨rfl, rfl⟩
          go_wp2_with fail
          refine HY.out.mono ?_
          rintro e w1 ⟨rfl, hr1, hb1⟩
          have HP := hid (numAt R 1 2 r ns w1 hr1 (.inr rfl) (by omega) h16 (by omega) (by omega))
          clear hr1 HY
          go_wp2_with fail
          refine HP.out.mono ?_
          rintro e w2 ⟨hp, hb2⟩
          have HB := hid (hb1.trans hb2)
          have HPP := hid (num_var (f := f + 1) (rest := 118 :: r) gp_var_eq hp)
          rcases hp with ⟨n, r1, _, _, _, rfl, _⟩ | ⟨_, rfl⟩
          · go_wp2
            go_ret2
            exact ⟨HPP.out, HB.out⟩
          · go_wp2
            go_ret2
            exact ⟨HPP.out, HB.out⟩
        · have HN3 := hid (takeNo R 118 rest ns w HR.out (by omega) (fun r e => c3 ⟨r, e⟩))
          have HG : Hid (gp (f + 1) rest = (num 4 rest).map fun p => (.const p.1, p.2)) := hid (by
            cases rest with
            | nil => rfl
            | cons b r => exact gp_const_eq (fun e => c1 ⟨r, by rw [e]⟩) (fun e => c2 ⟨r, by rw [e]⟩) (fun e => c3 ⟨r, by rw [e]⟩))
          have HP := hid (numAt R 4 1 rest ns w HR.out (.inl rfl) (by omega) h16 (by omega) (by omega))
          clear c1 c2 c3 IH
          go_enter Tryz.func117, Tryz.ntmps117
          go_wp2_with fail
          refine HN1.out.mono ?_
          rintro e w0 ⟨rfl, rfl⟩
          go_wp2_with fail
          refine HN2.out.mono ?_
          rintro e w0 ⟨rfl, rfl⟩
          go_wp2_with fail
          refine HN3.out.mono ?_
          rintro e w0 ⟨rfl, rfl⟩
          go_wp2_with fail
          refine HP.out.mono ?_
          rintro e w2 ⟨hp, hb2⟩
          have HPP := hid (num_const (f := f + 1) HG.out hp)
          rcases hp with ⟨n, r1, _, _, _, rfl, _⟩ | ⟨_, rfl⟩
          · go_wp2
            go_ret2
            exact ⟨HPP.out, hb2⟩
          · go_wp2
            go_ret2
            exact ⟨HPP.out, hb2⟩
/-- What ParseExpr answers. -/
def PxPost (l : List UInt8) (w : World) (e : Ending) (w' : World) : Prop :=
  (∃ u, e = .returned (.agg #[.int .i64 (pCode l), u]) ∧ w'.ownsRow (w.heap.size + 1) 143 4 u (pNodes l).length (nvals (pNodes l))) ∧ Below w.heap.size w w'
end Ex
end Go.Proofs.YtahkpgffoiaeiaaGreatDoor
