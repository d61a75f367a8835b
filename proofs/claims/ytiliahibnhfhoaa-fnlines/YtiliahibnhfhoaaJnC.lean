/- LineFault, of the program and of the specification. No condition. -/
import Derived.Test.YtiliahibnhfhoaaJnB
import Derived.Laws.IdiomStrings
namespace Go.Proofs.Ytiliahibnhfhoaa
open Go.RowKit
set_option linter.unusedVariables false
namespace Jn
/-- The bytes of a string, as a new row. -/
theorem conv_to (l : List UInt8) (w : World) : ∃ w' c, Sem.run Try.prog (convert 9 24 (.string (str l))) w = .ok (.slice (some ⟨w.heap.size, 0, none⟩) l.length c) w' ∧ At w' w'.heap.size (.slice (some ⟨w.heap.size, 0, none⟩) l.length c) l ∧ Below w.heap.size w w' ∧ w.heap.size < w'.heap.size := by
  refine ⟨_, _, (run_bytes_of_string (P := Try.prog) w 9 24 5 (str l) Try.underlying9 Try.underlying24 Try.underlying5).trans (by rw [str_size]), ?_, ?_, ?_⟩
  · refine ⟨_, _, rfl, grownCap_ge w l.length 0 5, fun i hi => ⟨w.heap.size, 0, rfl, by simp, ?_⟩⟩
    rw [Nat.zero_add]
    show (w.drew.alloc _).cell? ⟨w.drew.heap.size, i, none⟩ = _
    rw [World.cell?_alloc_mark, bytesRow_at _ _ _ (by simpa [str] using hi)]
    simp [str, vb]
  · exact ((Below.refl w.heap.size w).drew).alloc (Nat.le_refl _) _
  · simp
def allOk (l : List UInt8) (j : Nat) : Prop := ∀ i (hi : i < l.length), i < j → bad l[i] = false
theorem bad_split (b : UInt8) : (b.toNat < 32 ∧ bad b = true) ∨ (¬ b.toNat < 32 ∧ 126 < b.toNat ∧ bad b = true) ∨ (¬ b.toNat < 32 ∧ ¬ 126 < b.toNat ∧ bad b = false) := by
  unfold bad
  by_cases h1 : b.toNat < 32 <;> by_cases h2 : 126 < b.toNat <;> simp [h1, h2]
set_option maxRecDepth 100000 in
set_option maxHeartbeats 2000000 in
theorem implLine (l : List UInt8) (w : World) (hl : l.length ≤ 1048576) : Calls Try.prog 14 #[.string (str l)] w fun e w' => e = .returned (.int .i64 (faultC l)) ∧ Below w.heap.size w w' := by
  obtain ⟨w1, c, hcv, hat, hb, hlt⟩ := conv_to l w
  have HA := hid hat
  have HB := hid hb
  have HM := hid (fun h => fault_many (s := l) h)
  have HT := hid (fun h0 h1 i hi hb => fault_text (s := l) h0 h1 (i := i) hi hb)
  have HO := hid (fun h0 h1 h => fault_ok (s := l) h0 h1 h)
  obtain ⟨f, hf⟩ : ∃ f, Hid (f = faultC l) := ⟨_, hid rfl⟩
  rw [← hf.out]
  obtain ⟨s, hs⟩ : ∃ s, s = str l := ⟨_, rfl⟩
  have hz : s.size = l.length := by rw [hs, str_size]
  rw [← hs] at hcv ⊢
  clear hat hb hlt hs
  by_cases h1 : l.length < 1
  · have q1 : ((s.size : Nat) : Int) < 1 := by omega
    clear hcv hz
    go_enter Try.func14, Try.ntmps14
    go_wp2
    go_ret
    exact ⟨by rw [hf.out, HM.out (.inl h1)]; rfl, Below.refl _ _⟩
  by_cases h2 : 40 < l.length
  · have q1 : ¬ ((s.size : Nat) : Int) < 1 := by omega
    have q2 : (40 : Int) < ((s.size : Nat) : Int) := by omega
    clear hcv hz
    go_enter Try.func14, Try.ntmps14
    go_wp2
    go_ret
    exact ⟨by rw [hf.out, HM.out (.inr h2)]; rfl, Below.refl _ _⟩
  · have q1 : ¬ ((s.size : Nat) : Int) < 1 := by omega
    have q2 : ¬ (40 : Int) < ((s.size : Nat) : Int) := by omega
    clear hz
    go_enter Try.func14, Try.ntmps14
    go_wp2
    go_loopw [16] (fun x wr => ∃ j : Nat, x = .int .i64 (j : Int) ∧ j ≤ l.length ∧ Hid (allOk l j) ∧ Hid (wr = w1)) (fun x _ => l.length - (intOf x).toNat)
    case atStart => exact ⟨0, rfl, Nat.zero_le _, hid (fun i _ hi => absurd hi (Nat.not_lt_zero i)), hid rfl⟩
    case round =>
      obtain ⟨j, rfl, hj, hok, HW⟩ := hrel
      have hw := HW.out
      subst hw
      by_cases hlt : j < l.length
      · obtain ⟨g, o, ha, hg, hc⟩ := HA.out.at hlt
        cases ha
        have p1 : (j : Int) < (l.length : Int) := by omega
        have HBS := hid (bad_split l[j])
        simp only [vb, Nat.zero_add] at hc
        generalize hd : (l[j].toNat : Int) = d at *
        rcases HBS.out with ⟨b1, bb⟩ | ⟨b1, b2, bb⟩ | ⟨b1, b2, bb⟩
        · have p2 : d < 32 := by omega
          clear hd
          go_wp2
          go_ret
          exact ⟨by rw [hf.out, HT.out (by omega) (by omega) j hlt bb]; rfl, HB.out⟩
        · have p2 : ¬ d < 32 := by omega
          have p3 : 126 < d := by omega
          clear hd
          go_wp2
          go_ret
          exact ⟨by rw [hf.out, HT.out (by omega) (by omega) j hlt bb]; rfl, HB.out⟩
        · have p2 : ¬ d < 32 := by omega
          have p3 : ¬ 126 < d := by omega
          clear hd
          go_wp2
          exact ⟨⟨j + 1, by simp, by omega, hid (fun i hi hij => by
            rcases Nat.lt_or_ge i j with h | h
            · exact hok.out i hi h
            · obtain rfl : i = j := by omega
              exact bb), hid trivial⟩, by simp [intOf]; omega⟩
      · obtain rfl : j = l.length := by omega
        have p1 : ¬ (l.length : Int) < (l.length : Int) := by omega
        go_wp2
        go_ret
        exact ⟨by rw [hf.out, HO.out (by omega) (by omega) (fun i hi => hok.out i hi hi)]; rfl, HB.out⟩
set_option maxRecDepth 100000 in
set_option maxHeartbeats 400000 in
theorem specPlain (c : UInt8) (w : World) : Calls Try.prog 49 #[.int .u8 c.toNat] w fun e w' => e = .returned (.bool (!bad c)) ∧ w' = w := by
  by_cases h1 : (32 : Int) ≤ (c.toNat : Int)
  · by_cases h2 : (c.toNat : Int) ≤ 126
    · have HB : Hid ((!bad c) = true) := hid (by simp [bad]; omega)
      go_enter Try.func49, Try.ntmps49
      go_wp2
      go_ret
      exact ⟨by rw [HB.out]; rfl, rfl⟩
    · have HB : Hid ((!bad c) = false) := hid (by simp [bad]; omega)
      go_enter Try.func49, Try.ntmps49
      go_wp2
      go_ret
      exact ⟨by rw [HB.out]; rfl, rfl⟩
  · have HB : Hid ((!bad c) = false) := hid (by simp [bad]; omega)
    go_enter Try.func49, Try.ntmps49
    go_wp2
    go_ret
    exact ⟨by rw [HB.out]; rfl, rfl⟩
theorem str_get (l : List UInt8) (k : Nat) (h : k < (str l).size) (h2 : k < l.length) : (str l)[k] = l[k] := by
  show (ByteArray.mk l.toArray).data[k] = l[k]
  simp
set_option maxRecDepth 100000 in
set_option maxHeartbeats 2000000 in
theorem specLine (l : List UInt8) (w : World) (hl : l.length ≤ 1048576) : Calls Try.prog 13 #[.string (str l)] w fun e w' => e = .returned (.int .i64 (faultC l)) ∧ w' = w := by
  have HM := hid (fun h => fault_many (s := l) h)
  have HT := hid (fun h0 h1 i hi hb => fault_text (s := l) h0 h1 (i := i) hi hb)
  have HO := hid (fun h0 h1 h => fault_ok (s := l) h0 h1 h)
  obtain ⟨f, hf⟩ : ∃ f, Hid (f = faultC l) := ⟨_, hid rfl⟩
  rw [← hf.out]
  obtain ⟨s, hs⟩ : ∃ s, s = str l := ⟨_, rfl⟩
  have hz : s.size = l.length := by rw [hs, str_size]
  have HG : Hid (∀ (k : Nat) (h : k < s.size) (h2 : k < l.length), s[k] = l[k]) := hid (by subst hs; exact str_get l)
  rw [← hs]
  clear hs
  by_cases h1 : l.length < 1
  · have q1 : ((s.size : Nat) : Int) < 1 := by omega
    clear hz
    go_enter Try.func13, Try.ntmps13
    go_wp2
    go_ret
    exact ⟨by rw [hf.out, HM.out (.inl h1)]; rfl, rfl⟩
  by_cases h2 : 40 < l.length
  · have q1 : ¬ ((s.size : Nat) : Int) < 1 := by omega
    have q2 : (40 : Int) < ((s.size : Nat) : Int) := by omega
    clear hz
    go_enter Try.func13, Try.ntmps13
    go_wp2
    go_ret
    exact ⟨by rw [hf.out, HM.out (.inr h2)]; rfl, rfl⟩
  · have q1 : ¬ ((s.size : Nat) : Int) < 1 := by omega
    have q2 : ¬ (40 : Int) < ((s.size : Nat) : Int) := by omega
    have HZ := hid hz
    clear hz
    go_enter Try.func13, Try.ntmps13
    go_wp2
    go_loop [3] (fun x => ∃ j : Nat, x = .int .i64 (j : Int) ∧ j ≤ s.size ∧ Hid (allOk l j)) (fun x => s.size - (intOf x).toNat)
    case atStart => exact ⟨0, rfl, Nat.zero_le _, hid (fun i _ hi => absurd hi (Nat.not_lt_zero i))⟩
    case round =>
      obtain ⟨j, rfl, hj, hok⟩ := hrel
      by_cases hlt : j < s.size
      · have hjl : j < l.length := by rw [← HZ.out]; exact hlt
        have HGJ := hid (HG.out j hlt hjl)
        rcases Bool.eq_false_or_eq_true (bad s[j]) with hbd | hbd
        · have HBD := hid hbd
          clear hbd
          have HX := hid (HT.out (by omega) (by omega) j hjl (by rw [← HGJ.out]; exact HBD.out))
          go_wp2_with (go_at_call 49; refine (specPlain s[j] _).mono ?_; rintro e w' ⟨rfl, rfl⟩; rw [HBD.out])
          go_ret
          exact ⟨by rw [hf.out, HX.out]; rfl, rfl⟩
        · have HBD := hid hbd
          clear hbd
          go_wp2_with (go_at_call 49; refine (specPlain s[j] _).mono ?_; rintro e w' ⟨rfl, rfl⟩; rw [HBD.out])
          exact ⟨⟨j + 1, by go_num, by omega, hid (fun i hi hij => by
            rcases Nat.lt_or_ge i j with h | h
            · exact hok.out i hi h
            · obtain rfl : i = j := by omega
              rw [← HGJ.out]; exact HBD.out)⟩, by simp [intOf]; omega⟩
      · have HX := hid (HO.out (by omega) (by omega) (fun i hi => hok.out i hi (by have := HZ.out; omega)))
        go_wp2
        go_ret
        exact ⟨by rw [hf.out, HX.out]; rfl, rfl⟩
end Jn
end Go.Proofs.Ytiliahibnhfhoaa
