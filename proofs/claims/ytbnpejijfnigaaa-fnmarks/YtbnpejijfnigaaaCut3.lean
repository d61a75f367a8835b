/- How many bytes the first piece of a text has, as the program's pieceSize tells it, where strings.IndexAny answers as it should. -/
import Derived.Test.YtbnpejijfnigaaaCut2
namespace Go.Proofs.Ytbnpejijfnigaaa
open Go.Shelf Go.RowKit
set_option linter.unusedVariables false
namespace Cut
theorem has_no {c : UInt8} (h0 : c.toNat ≠ 60) (h2 : c.toNat ≠ 62) : ([60, 62] : List UInt8).contains c = false := by
  rw [Bool.eq_false_iff]
  intro e
  simp only [List.contains_cons, List.contains_nil, Bool.or_false, Bool.or_eq_true, beq_iff_eq] at e
  rcases e with rfl | rfl
  · exact h0 rfl
  · exact h2 rfl
theorem has_yes {c : UInt8} (h : c.toNat = 60 ∨ c.toNat = 62) : ([60, 62] : List UInt8).contains c = true := by
  simp only [List.contains_cons, List.contains_nil, Bool.or_false, Bool.or_eq_true, beq_iff_eq]
  rcases h with h | h
  · left; apply UInt8.toNat_inj.1; rw [h]; rfl
  · right; apply UInt8.toNat_inj.1; rw [h]; rfl
theorem text_any : ∀ (l : List UInt8) (k : Nat), (Lib.indexAny l [60, 62] = -1 ∧ textLen l k = k + l.length) ∨
    ∃ (i : Nat) (x : UInt8), Lib.indexAny l [60, 62] = (i : Int) ∧ l[i]? = some x ∧ ((x.toNat = 62 ∧ textLen l k = 0) ∨ (x.toNat = 60 ∧ textLen l k = k + i))
  | [], k => .inl ⟨rfl, rfl⟩
  | c :: r, k => by
    by_cases h60 : c.toNat = 60
    · exact .inr ⟨0, c, by rw [Lib.indexAny, if_pos (has_yes (.inl h60))]; rfl, rfl, .inr ⟨h60, by simp [textLen, h60]⟩⟩
    by_cases h62 : c.toNat = 62
    · exact .inr ⟨0, c, by rw [Lib.indexAny, if_pos (has_yes (.inr h62))]; rfl, rfl, .inl ⟨h62, by simp [textLen, h62]⟩⟩
    have e1 : textLen (c :: r) k = textLen r (k + 1) := by simp [textLen, h60, h62]
    have e2 : Lib.indexAny (c :: r) [60, 62] = if Lib.indexAny r [60, 62] == -1 then -1 else Lib.indexAny r [60, 62] + 1 := by
      rw [Lib.indexAny, if_neg (by rw [has_no h60 h62]; exact Bool.false_ne_true)]
    rw [e1, e2]
    rcases text_any r (k + 1) with ⟨h, ht⟩ | ⟨i, x, h, hx, ht⟩
    · left
      rw [h, ht]
      exact ⟨rfl, by simp only [List.length_cons]; omega⟩
    · right
      refine ⟨i + 1, x, ?_, by simpa using hx, ?_⟩
      · rw [h, if_neg (fun e => by have := beq_iff_eq.1 e; omega)]; push_cast; rfl
      · rcases ht with ⟨a, b⟩ | ⟨a, b⟩
        · exact .inl ⟨a, b⟩
        · exact .inr ⟨a, by rw [b]; omega⟩
theorem piece_mark {s : ByteArray} (h : 0 < s.size) (h60 : s[0].toNat = 60) : pieceLen s.data.toList = markLen s.data.toList := by
  have hl : s.data.toList = s[0] :: s.data.toList.drop 1 := List.drop_eq_getElem_cons (l := s.data.toList) (i := 0) (by simpa using h)
  rw [hl]
  unfold pieceLen
  simp only
  rw [if_pos h60]
theorem piece_text {s : ByteArray} (h : 0 < s.size) (h60 : s[0].toNat ≠ 60) : pieceLen s.data.toList = textLen s.data.toList 0 := by
  have hl : s.data.toList = s[0] :: s.data.toList.drop 1 := List.drop_eq_getElem_cons (l := s.data.toList) (i := 0) (by simpa using h)
  rw [hl]
  unfold pieceLen
  simp only
  rw [if_neg h60]
/-- What is asked of strings.IndexAny at a text. -/
def IAok (s : ByteArray) : Prop := ∀ w : World, Calls Try.prog 23 #[.string s, .string { data := #[60, 62] }] w fun e w' => e = .returned (.int .i64 (Lib.indexAny s.data.toList [60, 62])) ∧ Below w.heap.size w w'
set_option maxHeartbeats 1000000 in
theorem implPiece (s : ByteArray) (w : World) (hs : s.size ≤ 1500) (h0 : 0 < s.size) (hia : IAok s) :
    Calls Try.prog 19 #[.string s] w fun e w' => e = .returned (.int .i64 (pieceLen s.data.toList)) ∧ Below w.heap.size w w' := by
  by_cases h60 : s[0].toNat = 60
  · have HV : Hid (pieceLen s.data.toList = markLen s.data.toList) := piece_mark h0 h60
    have b0 : ((s[0].toNat : Int) == 60) = true := beq_iff_eq.2 (by omega)
    clear h60 hia
    go_enter Try.func19, Try.ntmps19
    go_wp2_with fail
    refine (implMark s _ (by unfold maxLen; omega)).mono ?_
    rintro e w' ⟨rfl, rfl⟩
    go_wp2
    go_ret
    exact ⟨ret_nat (by rw [HV.out]), Below.refl _ _⟩
  · have HV : Hid (pieceLen s.data.toList = textLen s.data.toList 0) := piece_text h0 h60
    have b0 : ((s[0].toNat : Int) == 60) = false := beq_eq_false_iff_ne.2 (by omega)
    have HI : Hid (IAok s) := hia
    clear h60 hia
    rcases text_any s.data.toList 0 with ⟨h, ht⟩ | ⟨i, x, h, hx, ht⟩
    · have HI1 : Hid (Lib.indexAny s.data.toList [60, 62] = -1) := h
      have HT : Hid (textLen s.data.toList 0 = s.size) := hid (by rw [ht, len_size]; omega)
      clear h ht
      go_enter Try.func19, Try.ntmps19
      go_wp2_with fail
      refine (HI.out _).mono ?_
      rintro e w1 ⟨rfl, hb⟩
      rw [HI1.out]
      go_wp2
      go_ret
      exact ⟨ret_nat (by rw [HV.out, HT.out]), hb⟩
    · have HI1 : Hid (Lib.indexAny s.data.toList [60, 62] = (i : Int)) := h
      have hi : i < s.size := by
        rw [← len_size]; exact (List.getElem?_eq_some_iff.1 hx).1
      have hxi : s[i] = x := by
        have := (List.getElem?_eq_some_iff.1 hx).2
        exact this
      rcases ht with ⟨h62, ht⟩ | ⟨h60, ht⟩
      · have HT : Hid (textLen s.data.toList 0 = 0) := ht
        have b1 : ((s[i].toNat : Int) == 62) = true := beq_iff_eq.2 (by rw [hxi]; omega)
        clear h ht hx hxi
        go_enter Try.func19, Try.ntmps19
        go_wp2_with fail
        refine (HI.out _).mono ?_
        rintro e w1 ⟨rfl, hb⟩
        rw [HI1.out]
        go_wp2
        go_ret
        exact ⟨ret_nat (by rw [HV.out, HT.out]; rfl), hb⟩
      · have HT : Hid (textLen s.data.toList 0 = i) := hid (by rw [ht]; omega)
        have b1 : ((s[i].toNat : Int) == 62) = false := beq_eq_false_iff_ne.2 (by rw [hxi]; omega)
        clear h ht hx hxi
        go_enter Try.func19, Try.ntmps19
        go_wp2_with fail
        refine (HI.out _).mono ?_
        rintro e w1 ⟨rfl, hb⟩
        rw [HI1.out]
        go_wp2
        go_ret
        exact ⟨ret_nat (by rw [HV.out, HT.out]), hb⟩
end Cut
end Go.Proofs.Ytbnpejijfnigaaa
