/- The law on marks, walked. -/
import Derived.Test.YtbnpejijfnigaaaWhole
import Derived.Test.YtbnpejijfnigaaaCut6
import Derived.Test.YtbnpejijfnigaaaCut9
import Derived.Test.YtbnpejijfnigaaaRws
import Derived.Test.YtbnpejijfnigaaaSp
import Derived.Test.YtbnpejijfnigaaaDraw2
import Derived.Deep.RegionHeld3
namespace Go.Proofs.Ytbnpejijfnigaaa
open Go.Shelf Go.RowKit
set_option linter.unusedVariables false
namespace Cut
theorem big (len cap : Nat) (a : Option Addr) (w : World) (hl : len ≤ maxLen) : Calls Try.prog 4 #[.slice a len cap] w fun e w' => e = .returned (.bool (decide (1048576 < len))) ∧ w' = w := by
  unfold maxLen at hl
  by_cases h : 1048576 < len
  · have q : (1048576 : Int) < (len : Int) := by omega
    go_enter Try.func4, Try.ntmps4
    go_wp2
    go_ret
    exact ⟨by simp [h], rfl⟩
  · have q : ¬ (1048576 : Int) < (len : Int) := by omega
    go_enter Try.func4, Try.ntmps4
    go_wp2
    go_ret
    exact ⟨by simp, rfl⟩
theorem seqF_few : ∀ (f : Nat) (l : List UInt8), (seqF f l).length ≤ f := by
  intro f
  induction f with
  | zero => intro l; simp [seqF]
  | succ f ih =>
    intro l
    cases l with
    | nil => simp [seqF]
    | cons c r =>
      unfold seqF
      split
      · simp
      · simp only [List.length_cons]; exact Nat.succ_le_succ (ih _)
theorem texts_few (l : List UInt8) : (texts l).length ≤ l.length := by
  unfold texts told
  rw [List.length_map]
  exact seqF_few _ _
theorem fld0 (c : Int) (v : Value) (w : World) : Sem.run Try.prog (Instr.field 27 (.agg #[.int .i64 c, v]) 0) w = .ok (.int .i64 c) w := by kernel_rfl
theorem fld1 (c : Int) (v : Value) (w : World) : Sem.run Try.prog (Instr.field 27 (.agg #[.int .i64 c, v]) 1) w = .ok v w := by kernel_rfl
theorem some_text {u : ByteArray} (h : 0 < u.size) : u.toList.isEmpty = false := by
  rw [ByteArray.toList_eq, List.isEmpty_eq_false_iff]
  intro e
  have := congrArg List.length e
  rw [len_size] at this
  rw [List.length_nil] at this
  omega
theorem some_text' {u : ByteArray} (h : 0 < u.size) : ¬ u.toList = [] := by
  have := some_text h
  rwa [List.isEmpty_eq_false_iff] at this
theorem flat_snoc {ts : List (List UInt8)} {k : Nat} (hk : k < ts.length) {t u : ByteArray} (ht : t.data.toList = (ts.take k).flatten) (hu : u.data.toList = ts[k]) : (t ++ u).data.toList = (ts.take (k + 1)).flatten := by
  rw [List.take_succ_eq_append_getElem hk, List.flatten_append, ← ht]
  simp [hu]
theorem flat_le {ts : List (List UInt8)} {s t : ByteArray} {k : Nat} (ht : t.data.toList = (ts.take k).flatten) (hs : ts.flatten = s.data.toList) : t.size ≤ s.size := by
  rw [← len_size t, ← len_size s, ht, ← hs]
  conv => rhs; rw [← List.take_append_drop k ts]
  rw [List.flatten_append, List.length_append]
  omega
theorem flat_end {ts : List (List UInt8)} {s t : ByteArray} {k : Nat} (hk : ¬ k < ts.length) (ht : t.data.toList = (ts.take k).flatten) (hs : ts.flatten = s.data.toList) : t = s := by
  rw [List.take_of_length_le (by omega), hs] at ht
  exact ByteArray.ext (Array.toList_inj.1 ht)
theorem head_at {u : ByteArray} {l : List UInt8} (hu : u.data.toList = l) (h0 : 0 < u.size) : l.head? = some u[0] := by
  subst hu
  rw [List.head?_eq_getElem?, List.getElem?_eq_getElem (by rw [len_size]; exact h0)]
  rfl
set_option maxHeartbeats 4000000 in
theorem marks (len cap : Nat) (a : Option Addr) (w : World) (hc : Drw.CodeAt w.heap.size w a len) (hl : len ≤ maxLen) :
    Calls Try.prog 3 #[.slice a len cap] w fun e w' => e = .returned (.bool true) ∧ Below w.heap.size w w' := by
  have HC : Hid (Drw.CodeAt w.heap.size w a len) := hc
  clear hc
  go_enter Try.func3, Try.ntmps3
  go_wp2_with fail
  refine (big len cap a _ hl).mono ?_
  rintro e w0 ⟨rfl, rfl⟩
  by_cases hb : 1048576 < len
  · rw [decide_eq_true hb]
    go_wp2
    go_ret
    exact ⟨rfl, Below.refl _ _⟩
  rw [decide_eq_false hb]
  go_wp2_with fail
  refine (Drw.draw len cap a _ HC.out (by omega)).mono ?_
  rintro e w1 ⟨s, hs, rfl, hb1⟩
  have hz1 := hb1.size
  go_wp2_with fail
  refine (implCut s w1 (by unfold maxLen; omega) (fun h k => ia _ (by rw [rb_size, len_size]; omega))).mono ?_
  rintro e w2 ⟨v, rfl, ho, hb2⟩
  have hz2 := hb2.size
  have HR : Hid (RowAt w2 v (ctexts s.data.toList)) := RowAt.of ho
  obtain ⟨a1, k1, rfl⟩ := HR.out.slice
  clear ho
  have HSP : Hid (∀ w, Calls Try.prog 7 #[.string s] w fun e w' => CutPost s w e w') := fun w => specCut s w (by unfold maxLen; omega)
  have HI1 : Hid (∀ w, Calls Try.prog 9 #[.string s] w fun e w' => e = .returned (.bool (IsSp.spAll s.data.toList)) ∧ w' = w) := fun w => IsSp.impl_sp s w (by unfold maxLen; omega)
  have HI2 : Hid (∀ w, Calls Try.prog 10 #[.string s] w fun e w' => e = .returned (.bool (IsSp.spAll s.data.toList)) ∧ w' = w) := fun w => IsSp.spec_sp s w (by unfold maxLen; omega)
  have HB2 : Hid (Below w0.heap.size w0 w2) := hb1.trans (hb2.mono hz1)
  have hz02 : w0.heap.size ≤ w2.heap.size := Nat.le_trans hz1 hz2
  clear hb1 hb2 HC
  by_cases hcc : ccode s.data.toList = 0
  · have hg : good s.data.toList = true ∧ s.size ≤ 1500 ∧ ctexts s.data.toList = texts s.data.toList := by
      have h := hcc
      unfold ccode at h
      rw [len_size] at h
      split at h
      · exact absurd h (by decide)
      · rename_i h15
        split at h
        · rename_i hg
          exact ⟨hg, by omega, (cc_ok h15 hg).2⟩
        · exact absurd h (by decide)
    obtain ⟨hg, h15, hct⟩ := hg
    have hw := whole _ _ (Nat.le_refl _) hg
    have hn := texts_few s.data.toList
    rw [len_size] at hn
    unfold CutPost at HSP
    rw [hct] at HR HSP
    rw [hcc] at HSP ⊢
    rw [hct]
    clear hct hg hcc
    generalize texts s.data.toList = ts at *
    obtain ⟨hw1, hw2, hw3⟩ := hw
    have HW1 : Hid (ts.flatten = s.data.toList) := hw1
    have HW2 : Hid (∀ (i : Nat) (t : List UInt8), ts[i]? = some t → t ≠ []) := hw2
    have HW3 : Hid (∀ (i : Nat) (t u : List UInt8), ts[i]? = some t → ts[i + 1]? = some u → t.head? = some 60 ∨ u.head? = some 60) := hw3
    clear hw1 hw2 hw3
    go_wp2_with fail
    have HR3 : Hid (RowAt (w2.alloc (.cells #[.int .i64 0, .slice a1 ts.length k1] 27)) (.slice a1 ts.length k1) ts) := HR.out.below ((Below.refl _ w2).alloc (Nat.le_refl _) _)
    have c1 : (w2.alloc (.cells #[.int .i64 0, .slice a1 ts.length k1] 27)).cell? ⟨w2.heap.size, 1, none⟩ = some (.slice a1 ts.length k1) := by simp
    have HB3 : Hid (Below w0.heap.size w0 (w2.alloc (.cells #[.int .i64 0, .slice a1 ts.length k1] 27))) := HB2.out.alloc hz02 _
    have hz3 : w2.heap.size < (w2.alloc (.cells #[.int .i64 0, .slice a1 ts.length k1] 27)).heap.size := by simp
    generalize w2.alloc (.cells #[.int .i64 0, .slice a1 ts.length k1] 27) = w3 at *
    clear HB2 HR
    go_loop [5, 6] (fun al i => ∃ (k : Nat) (t : ByteArray), k ≤ ts.length ∧ i = .int .i64 k ∧ al = .string t ∧ t.data.toList = (ts.take k).flatten) (fun _ i => ts.length - (intOf i).toNat)
    case atStart => exact ⟨0, _, Nat.zero_le _, rfl, rfl, rfl⟩
    case round =>
      obtain ⟨k, t, hk, rfl, rfl, ht⟩ := hrel
      have HT : Hid (t.data.toList = (ts.take k).flatten) := ht
      clear ht
      by_cases hlt : k < ts.length
      · obtain ⟨g, d, e, hg, hc⟩ := HR3.out.at hlt
        cases e
        obtain ⟨u, hu, hub⟩ : ∃ u : ByteArray, u.data.toList = ts[k] ∧ strv ts[k] = .string u := ⟨⟨ts[k].toArray⟩, by simp, rfl⟩
        have hu0 : 0 < u.size := by
          have h := HW2.out k ts[k] (List.getElem?_eq_getElem hlt)
          have h2 := len_size u
          rw [hu] at h2
          rw [← h2]
          exact List.length_pos_iff.2 h
        rw [hub] at hc
        have HU : Hid (u.data.toList = ts[k]) := hu
        clear hu hub
        have q1 : (k : Int) < (ts.length : Int) := by omega
        have he := some_text hu0
        have he' := some_text' hu0
        have HF := flat_snoc hlt HT.out HU.out
        have hsz : t.size + u.size ≤ 1500 := by
          have h := flat_le HF HW1.out
          rw [Drw.size_app] at h
          omega
        have HF' : Hid ((t ++ u).data.toList = (ts.take (k + 1)).flatten) := HF
        clear HF
        have q2 : ¬ 9223372036854775807 < t.size + u.size := by omega
        by_cases hk0 : k = 0
        · subst hk0
          go_wp2
          refine ⟨⟨1, _, by omega, rfl, rfl, HF'.out⟩, ?_⟩
          simp [intOf]
          omega
        · obtain ⟨m, rfl⟩ : ∃ m, k = m + 1 := ⟨k - 1, by omega⟩
          clear hk0
          obtain ⟨g', d', e', hg', hc'⟩ := HR3.out.at (show m < ts.length by omega)
          cases e'
          obtain ⟨p, hp, hpb⟩ : ∃ p : ByteArray, p.data.toList = ts[m] ∧ strv ts[m] = .string p := ⟨⟨ts[m].toArray⟩, by simp, rfl⟩
          have hp0 : 0 < p.size := by
            have h := HW2.out m ts[m] (List.getElem?_eq_getElem (by omega))
            have h2 := len_size p
            rw [hp] at h2
            rw [← h2]
            exact List.length_pos_iff.2 h
          rw [hpb] at hc'
          have hor := HW3.out m _ _ (List.getElem?_eq_getElem (by omega)) (List.getElem?_eq_getElem hlt)
          rw [head_at hp hp0, head_at HU.out hu0] at hor
          have HP : Hid (p.data.toList = ts[m]) := hp
          clear hp hpb
          have q3 : (0 : Int) < ((m + 1 : Nat) : Int) := by omega
          have q4 : (m : Int) < (ts.length : Int) := by omega
          have q5 : (m : Int) + 1 < (ts.length : Int) := by omega
          by_cases h60 : u[0] = 60
          · have b1 : ((u[0].toNat : Int) != 60) = false := by rw [h60]; rfl
            clear h60 hor
            go_wp2
            refine ⟨⟨m + 1 + 1, _, by omega, by go_num, rfl, HF'.out⟩, ?_⟩
            simp [intOf]
            omega
          · have hp60 : p[0] = 60 := by
              rcases hor with h | h
              · exact Option.some.inj h
              · exact absurd (Option.some.inj h) h60
            have b1 : ((u[0].toNat : Int) != 60) = true := by
              rw [bne_iff_ne]
              intro h
              exact h60 (UInt8.toNat_inj.1 (by have : u[0].toNat = 60 := by omega
                                               rw [this]; rfl))
            have b2 : ((p[0].toNat : Int) != 60) = false := by rw [hp60]; rfl
            clear h60 hor hp60
            go_wp2
            refine ⟨⟨m + 1 + 1, _, by omega, by go_num, rfl, HF'.out⟩, ?_⟩
            simp [intOf]
            omega
      · obtain rfl := flat_end hlt HT.out HW1.out
        have q1 : ¬ (k : Int) < (ts.length : Int) := by omega
        have hte : (t.toList == t.toList) = true := by simp
        have hn' : ts.length ≤ 1048576 := by omega
        have hB30 : Below w3.heap.size w3 w3.drew := (Below.refl _ w3).drew
        have f1 := fld1 0
        generalize IsSp.spAll t.data.toList = sb at *
        have hsb : (sb == sb) = true := by simp
        go_wp2_with fail
        go_region_held3 (fun wx => wx.cell? ⟨w2.heap.size, 1, none⟩ = some (.slice a1 ts.length k1) ∧ Below w3.heap.size w3 wx) (refine ⟨?_, ?_⟩ <;> first | assumption | (simp [*]; done)) (first
          | (go_at_call 7; refine (HSP.out _).mono ?_; rintro e w4 ⟨v4, rfl, ho4, hb4⟩; have H4 : Hid (RowAt w4 v4 ts) := RowAt.of ho4; obtain ⟨a4, k4, rfl⟩ := H4.out.slice; clear ho4; have hB4 : Below w3.heap.size w3 w4 := hB30.trans hb4; clear hb4; have hc4 : w4.cell? ⟨w2.heap.size, 1, none⟩ = some (.slice a1 ts.length k1) := (hB4.cell (p := ⟨w2.heap.size, 1, none⟩) hz3).trans c1)
          | (go_at_call 8; refine (eqS _ _ ts _ hn' (HR3.out.below hB4) H4.out).mono ?_; rintro e w5 ⟨rfl, hb5⟩; have hB5 : Below w3.heap.size w3 w5 := hB4.trans (hb5.mono hB4.size); clear hb5; have hc5 : w5.cell? ⟨w2.heap.size, 1, none⟩ = some (.slice a1 ts.length k1) := (hB5.cell (p := ⟨w2.heap.size, 1, none⟩) hz3).trans c1)
          | (go_at_call 9; refine (HI1.out _).mono ?_; rintro e w6 ⟨rfl, rfl⟩)
          | (go_at_call 10; refine (HI2.out _).mono ?_; rintro e w7 ⟨rfl, rfl⟩))
        all_goals (go_wp2; go_ret; exact ⟨rfl, HB3.out.trans (hB5.mono HB3.out.size)⟩)
  · have q0 : (ccode s.data.toList != 0) = true := by simpa using hcc
    go_wp2_with fail
    have f0 := fld0 (ccode s.data.toList)
    go_region_held3 (fun wx => wx.cell? ⟨w2.heap.size, 0, none⟩ = some (.int .i64 (ccode s.data.toList)) ∧ Below w0.heap.size w0 wx ∧ w2.heap.size < wx.heap.size) (refine ⟨?_, ?_, ?_⟩ <;> first | assumption | exact (HB2.out.alloc hz02 _).drew | (simp; done)) (first | (go_at_call 7; refine (HSP.out _).mono ?_; rintro e w4 ⟨v4, rfl, ho4, hb4⟩; obtain ⟨a4, n4, k4, rfl⟩ := is_slice ho4; clear ho4; have hB4 : Below w0.heap.size w0 w4 := ((HB2.out.alloc hz02 _).drew).trans (hb4.mono (by simp; omega)); have hc4 : w4.cell? ⟨w2.heap.size, 0, none⟩ = some (.int .i64 (ccode s.data.toList)) := by {rw [hb4.cell (p := ⟨w2.heap.size, 0, none⟩) (by simp)]; simp}; have hz4 : w2.heap.size < w4.heap.size := by {have := hb4.size; simp at this; omega}))
    all_goals (go_wp2; go_ret; exact ⟨by simp, hB4⟩)
end Cut
end Go.Proofs.Ytbnpejijfnigaaa
