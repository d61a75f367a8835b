/- What the specification's l1Cut and CutMarks answer, at this program. -/
import Derived.Test.YtbnpejijfnigaaaCut3
import Derived.Laws.AppendOwn
import Derived.Maps.AppendAt
namespace Go.Proofs.Ytbnpejijfnigaaa
open Go.Shelf Go.RowKit
set_option linter.unusedVariables false
namespace Cut
def strv (l : List UInt8) : Value := .string ⟨l.toArray⟩
def good (l : List UInt8) : Bool := (told l).all (·.2)
def texts (l : List UInt8) : List (List UInt8) := (told l).map (·.1)
theorem infoStr : (Try.prog.info? 9).map (fun i => (i.zero, i.size, i.bytes)) = some (some (.string { data := #[] }), 1, 16) := by kernel_rfl
theorem ext_take (s : ByteArray) (a b : Nat) : s.extract a b = ⟨((s.data.toList.drop a).take (b - a)).toArray⟩ := by
  apply ByteArray.ext
  apply Array.toList_inj.1
  rw [Lib.extract_data]
/-- k bytes are cut into acc. -/
def Been (l : List UInt8) (k : Nat) (acc : List (List UInt8)) : Prop := told l = acc.map (fun x => (x, true)) ++ told (l.drop k) ∧ acc.length ≤ k
theorem Been.zero (l : List UInt8) : Been l 0 [] := ⟨rfl, Nat.le_refl _⟩
theorem Been.next {l : List UInt8} {k n : Nat} {acc : List (List UInt8)} (h : Been l k acc) (hk : k < l.length) (hn : pieceLen (l.drop k) = n) (h0 : n ≠ 0) : Been l (k + n) (acc ++ [(l.drop k).take n]) := by
  have hne : l.drop k ≠ [] := by intro e; have := congrArg List.length e; simp at this; omega
  refine ⟨?_, by simp only [List.length_append, List.length_cons, List.length_nil]; have := h.2; omega⟩
  rw [h.1, told_ok hne (by rw [hn]; exact h0), hn, List.drop_drop]
  simp
theorem Been.bad {l : List UInt8} {k : Nat} {acc : List (List UInt8)} (h : Been l k acc) (hk : k < l.length) (hn : pieceLen (l.drop k) = 0) : good l = false := by
  have hne : l.drop k ≠ [] := by intro e; have := congrArg List.length e; simp at this; omega
  unfold good
  rw [h.1, told_bad hne hn]
  simp
theorem Been.done {l : List UInt8} {k : Nat} {acc : List (List UInt8)} (h : Been l k acc) (hk : l.length ≤ k) : good l = true ∧ texts l = acc := by
  unfold good texts
  rw [h.1, List.drop_eq_nil_of_le hk, told_nil]
  simp [Function.comp_def]
theorem piece_cons {l : List UInt8} {k : Nat} (hk : k < l.length) : pieceLen (l.drop k) = if l[k].toNat = 60 then markLen (l.drop k) else textLen (l.drop k) 0 := by
  rw [List.drop_eq_getElem_cons hk]
  unfold pieceLen
  rfl
theorem piece_m {s : ByteArray} {k : Nat} (hk : k < s.size) (h60 : s[k].toNat = 60) : pieceLen (s.data.toList.drop k) = markLen (s.data.toList.drop k) := by
  rw [piece_cons (by rw [len_size]; exact hk)]; exact if_pos h60
theorem piece_t {s : ByteArray} {k : Nat} (hk : k < s.size) (h60 : s[k].toNat ≠ 60) : pieceLen (s.data.toList.drop k) = textLen (s.data.toList.drop k) 0 := by
  rw [piece_cons (by rw [len_size]; exact hk)]; exact if_neg h60
theorem text_step {s : ByteArray} {q j : Nat} (hq : q < s.size) (h60 : s[q].toNat ≠ 60) (h62 : s[q].toNat ≠ 62) : textLen (s.data.toList.drop q) j = textLen (s.data.toList.drop (q + 1)) (j + 1) := by
  rw [List.drop_eq_getElem_cons (by rw [len_size]; exact hq)]
  have a : (s.data.toList[q]'(by rw [len_size]; exact hq)).toNat ≠ 60 := h60
  have b : (s.data.toList[q]'(by rw [len_size]; exact hq)).toNat ≠ 62 := h62
  simp only [textLen]
  rw [if_neg a, if_neg b]
theorem text_60 {s : ByteArray} {q j : Nat} (hq : q < s.size) (h60 : s[q].toNat = 60) : textLen (s.data.toList.drop q) j = j := by
  rw [List.drop_eq_getElem_cons (by rw [len_size]; exact hq)]
  have a : (s.data.toList[q]'(by rw [len_size]; exact hq)).toNat = 60 := h60
  simp only [textLen]
  rw [if_pos a]
theorem text_62 {s : ByteArray} {q j : Nat} (hq : q < s.size) (h62 : s[q].toNat = 62) : textLen (s.data.toList.drop q) j = 0 := by
  rw [List.drop_eq_getElem_cons (by rw [len_size]; exact hq)]
  have a : (s.data.toList[q]'(by rw [len_size]; exact hq)).toNat = 62 := h62
  simp only [textLen]
  rw [if_neg (by omega), if_pos a]
theorem text_end {s : ByteArray} {q j : Nat} (hq : ¬ q < s.size) : textLen (s.data.toList.drop q) j = j := by
  rw [List.drop_eq_nil_of_le (by rw [len_size]; omega)]; rfl
theorem endVal_0 {l : List UInt8} {k : Nat} (h : endVal l k = 0) : markLen (l.drop k) = 0 := by
  unfold endVal at h
  split at h
  · assumption
  · omega
theorem endVal_n {l : List UInt8} {k : Nat} (h : endVal l k ≠ 0) : markLen (l.drop k) = endVal l k - k ∧ markLen (l.drop k) ≠ 0 ∧ k ≤ endVal l k ∧ endVal l k ≤ k + (l.length - k) := by
  have hle := markLen_le (l := l.drop k)
  rw [List.length_drop] at hle
  unfold endVal at *
  split at h
  · exact absurd rfl h
  · rename_i h0
    rw [if_neg h0]
    exact ⟨by omega, h0, by omega, by omega⟩
set_option maxHeartbeats 4000000 in
theorem specCutL (s : ByteArray) (w : World) (hs : s.size ≤ 1500) :
    Calls Try.prog 17 #[.string s] w fun e w' => Below w.heap.size w w' ∧ ((good s.data.toList = false ∧ e = .returned (.tuple #[.slice none 0 0, .bool false])) ∨
      (good s.data.toList = true ∧ ∃ v, e = .returned (.tuple #[v, .bool true]) ∧ w'.ownsRow w.heap.size 9 1 v (texts s.data.toList).length ((texts s.data.toList).map strv))) := by
  obtain ⟨i0, hi, hz0, hz1, hz2⟩ := info_parts infoStr
  go_enter Try.func17, Try.ntmps17
  go_wp2_with fail
  go_loopw [4, 5] (fun o i wr => ∃ (k : Nat) (acc : List (List UInt8)), i = .int .i64 k ∧ k ≤ s.size ∧ Hid (Been s.data.toList k acc) ∧ wr.ownsRow w.heap.size 9 1 o acc.length (acc.map strv) ∧ Below w.heap.size w wr) (fun _ i _ => s.size - (intOf i).toNat)
  case atStart => exact ⟨0, [], rfl, Nat.zero_le _, Been.zero _, World.ownsRow_made w #[] 0 (Nat.le_refl _) (by unfold maxLen; omega) rfl, (Below.refl _ w).alloc (Nat.le_refl _) _⟩
  case round =>
    obtain ⟨k, acc, rfl, hk, HB, hown, hbel⟩ := hrel
    have hz := hbel.size
    have hal : acc.length ≤ k := HB.out.2
    by_cases hlt : k < s.size
    · by_cases h60 : s[k].toNat = 60
      · have b0 : ((s[k].toNat : Int) == 60) = true := beq_iff_eq.2 (by omega)
        by_cases he : endVal s.data.toList k = 0
        · have HG : Hid (good s.data.toList = false) := HB.out.bad (by rw [len_size]; exact hlt) ((piece_m hlt h60).trans (endVal_0 he))
          have HE : Hid (endVal s.data.toList k = 0) := he
          have H60 : Hid (s[k].toNat = 60) := h60
          clear he h60
          go_wp2_with fail
          refine (specEnd s k _ (by omega) hlt H60.out).mono ?_
          rintro e w' ⟨rfl, rfl⟩
          rw [HE.out]
          go_wp2
          go_ret2
          exact ⟨hbel, .inl ⟨HG.out, rfl⟩⟩
        · have HN := endVal_n he
          generalize hev : endVal s.data.toList k = q at *
          have HEV : Hid (endVal s.data.toList k = q) := hev
          have HX : Hid (Been s.data.toList (k + (q - k)) (acc ++ [(s.data.toList.drop k).take (q - k)])) := HB.out.next (by rw [len_size]; exact hlt) ((piece_m hlt h60).trans HN.1) (by have := HN.2.1; have := HN.1; omega)
          have hq1 : k < q := by have := HN.1; have := HN.2.1; omega
          have hq2 : q ≤ s.size := by have := HN.2.2.2; rw [len_size] at this; omega
          have H60 : Hid (s[k].toNat = 60) := h60
          have bq : ((q : Int) == 0) = false := beq_eq_false_iff_ne.2 (by omega)
          have g1 : (k : Int) ≤ (q : Int) := by omega
          have g2 : (q : Int) ≤ (s.size : Int) := by omega
          clear he h60 HN hev
          go_wp2_with fail
          refine (specEnd s k _ (by omega) hlt H60.out).mono ?_
          rintro e w1 ⟨rfl, rfl⟩
          rw [HEV.out]
          go_wp2_with (at_builtin; go_must (refine wpList_append_own _ rfl _ _ 25 rfl w.heap.size 9 i0 (.string { data := #[] }) 1 16 Try.underlying25 hi hz0 hz1 hz2 rfl (by decide) _ _ _ rfl (hown.alloc _) ⟨w1.heap.size, 0, none⟩ 1 1 [.string (s.extract k q)] rfl rfl (cell_one_new _ _ _) (by simp [Value.oneCell']) (by unfold maxLen; omega) (by omega) (by simp; omega) ?_); intro v' w2 hown' hgrow _)
          refine ⟨⟨q, acc ++ [(s.data.toList.drop k).take (q - k)], rfl, hq2, ?_, ?_, ?_⟩, by simp [intOf]; omega⟩
          · have h := HX.out
            rw [show k + (q - k) = q from by omega] at h
            exact h
          · rw [ext_take] at hown'
            simpa [strv] using hown'
          · exact (hbel.alloc hz _).grown hgrow (by simp; omega) (fun k hk => (hown.lt k hk).1)
      · have b0 : ((s[k].toNat : Int) == 60) = false := beq_eq_false_iff_ne.2 (by omega)
        have HT : Hid (pieceLen (s.data.toList.drop k) = textLen (s.data.toList.drop k) 0) := piece_t hlt h60
        have H60 : Hid (s[k].toNat ≠ 60) := h60
        clear h60
        go_wp2_with fail
        go_loop [5] (fun i => ∃ q : Nat, i = .int .i64 q ∧ k ≤ q ∧ q ≤ s.size ∧ Hid (textLen (s.data.toList.drop k) 0 = textLen (s.data.toList.drop q) (q - k))) (fun i => s.size - (intOf i).toNat)
        case atStart => exact ⟨k, rfl, Nat.le_refl _, hk, hid (by simp)⟩
        case round =>
          obtain ⟨q, rfl, hq0, hq2, HQ⟩ := hrel
          have g1 : (k : Int) ≤ (q : Int) := by omega
          have g2 : (q : Int) ≤ (s.size : Int) := by omega
          by_cases hql : q < s.size
          · by_cases h60 : s[q].toNat = 60
            · have hkq : k < q := by
                rcases Nat.lt_or_ge k q with h | h
                · exact h
                · have : q = k := by omega
                  subst this
                  exact absurd h60 H60.out
              have HX : Hid (Been s.data.toList (k + (q - k)) (acc ++ [(s.data.toList.drop k).take (q - k)])) := HB.out.next (by rw [len_size]; exact hlt) (by rw [HT.out, HQ.out, text_60 hql h60]) (by omega)
              have b1 : ((s[q].toNat : Int) != 60) = false := by simp; omega
              clear h60
              go_wp2_with (at_builtin; go_must (refine wpList_append_own _ rfl _ _ 25 rfl w.heap.size 9 i0 (.string { data := #[] }) 1 16 Try.underlying25 hi hz0 hz1 hz2 rfl (by decide) _ _ _ rfl (hown.alloc _) ⟨wr.heap.size, 0, none⟩ 1 1 [.string (s.extract k q)] rfl rfl (cell_one_new _ _ _) (by simp [Value.oneCell']) (by unfold maxLen; omega) (by omega) (by simp; omega) ?_); intro v' w2 hown' hgrow _)
              refine ⟨⟨q, acc ++ [(s.data.toList.drop k).take (q - k)], rfl, hq2, ?_, ?_, ?_⟩, by simp [intOf]; omega⟩
              · have h := HX.out
                rw [show k + (q - k) = q from by omega] at h
                exact h
              · rw [ext_take] at hown'
                simpa [strv] using hown'
              · exact (hbel.alloc hz _).grown hgrow (by simp; omega) (fun k hk => (hown.lt k hk).1)
            · have b1 : ((s[q].toNat : Int) != 60) = true := by rw [bne_iff_ne]; omega
              by_cases h62 : s[q].toNat = 62
              · have b2 : ((s[q].toNat : Int) == 62) = true := beq_iff_eq.2 (by omega)
                have HG : Hid (good s.data.toList = false) := HB.out.bad (by rw [len_size]; exact hlt) (by rw [HT.out, HQ.out, text_62 hql h62])
                clear h60 h62
                go_wp2
                go_ret2
                exact ⟨hbel, .inl ⟨HG.out, rfl⟩⟩
              · have b2 : ((s[q].toNat : Int) == 62) = false := beq_eq_false_iff_ne.2 (by omega)
                have HS : Hid (textLen (s.data.toList.drop k) 0 = textLen (s.data.toList.drop (q + 1)) (q + 1 - k)) := hid (by rw [HQ.out, text_step hql h60 h62]; congr 1; omega)
                clear h60 h62
                go_wp2
                exact ⟨⟨q + 1, by simp, by omega, by omega, HS⟩, by simp [intOf]; omega⟩
          · have hkq : k < q := by omega
            have HX : Hid (Been s.data.toList (k + (q - k)) (acc ++ [(s.data.toList.drop k).take (q - k)])) := HB.out.next (by rw [len_size]; exact hlt) (by rw [HT.out, HQ.out, text_end hql]) (by omega)
            go_wp2_with (at_builtin; go_must (refine wpList_append_own _ rfl _ _ 25 rfl w.heap.size 9 i0 (.string { data := #[] }) 1 16 Try.underlying25 hi hz0 hz1 hz2 rfl (by decide) _ _ _ rfl (hown.alloc _) ⟨wr.heap.size, 0, none⟩ 1 1 [.string (s.extract k q)] rfl rfl (cell_one_new _ _ _) (by simp [Value.oneCell']) (by unfold maxLen; omega) (by omega) (by simp; omega) ?_); intro v' w2 hown' hgrow _)
            refine ⟨⟨q, acc ++ [(s.data.toList.drop k).take (q - k)], rfl, hq2, ?_, ?_, ?_⟩, by simp [intOf]; omega⟩
            · have h := HX.out
              rw [show k + (q - k) = q from by omega] at h
              exact h
            · rw [ext_take] at hown'
              simpa [strv] using hown'
            · exact (hbel.alloc hz _).grown hgrow (by simp; omega) (fun k hk => (hown.lt k hk).1)
    · have HD : Hid (good s.data.toList = true ∧ texts s.data.toList = acc) := HB.out.done (by rw [len_size]; omega)
      go_wp2
      go_ret2
      refine ⟨hbel, .inr ⟨HD.out.1, _, rfl, ?_⟩⟩
      rw [HD.out.2]
      exact hown

def ccode (l : List UInt8) : Int := if 1500 < l.length then 2 else if good l = true then 0 else 5
def ctexts (l : List UInt8) : List (List UInt8) := if ccode l = 0 then texts l else []
theorem cc_many {s : ByteArray} (h : 1500 < s.size) : ccode s.data.toList = 2 ∧ ctexts s.data.toList = [] := by
  have h1 : ccode s.data.toList = 2 := by unfold ccode; rw [len_size, if_pos h]
  exact ⟨h1, by unfold ctexts; rw [h1]; rfl⟩
theorem cc_bad {s : ByteArray} (h : ¬ 1500 < s.size) (hg : good s.data.toList = false) : ccode s.data.toList = 5 ∧ ctexts s.data.toList = [] := by
  have h1 : ccode s.data.toList = 5 := by unfold ccode; rw [len_size, if_neg h, if_neg (by rw [hg]; decide)]
  exact ⟨h1, by unfold ctexts; rw [h1]; rfl⟩
theorem cc_ok {s : ByteArray} (h : ¬ 1500 < s.size) (hg : good s.data.toList = true) : ccode s.data.toList = 0 ∧ ctexts s.data.toList = texts s.data.toList := by
  have h1 : ccode s.data.toList = 0 := by unfold ccode; rw [len_size, if_neg h, if_pos hg]
  exact ⟨h1, by unfold ctexts; rw [h1]; rfl⟩
theorem owns_base {w : World} {base base' : Nat} {e : TypeId} {size n : Nat} {v : Value} {xs : List Value} (h : w.ownsRow base e size v n xs) (hb : base' ≤ base) : w.ownsRow base' e size v n xs := by
  obtain ⟨hl, h | ⟨g, cap, cur, h1, h2, h3⟩⟩ := h
  · exact ⟨hl, .inl h⟩
  · exact ⟨hl, .inr ⟨g, cap, cur, h1, Nat.le_trans hb h2, h3⟩⟩
theorem bcell {B : Nat} {W w1 : World} (hb : Below B W w1) : (∀ b o, b < B → w1.cell? ⟨b, o, none⟩ = W.cell? ⟨b, o, none⟩) ∧ (∀ b o, b < B → w1.frozen? ⟨b, o, none⟩ = W.frozen? ⟨b, o, none⟩) :=
  ⟨fun b o h => hb.cell (p := ⟨b, o, none⟩) h, fun b o h => hb.frozen (p := ⟨b, o, none⟩) h⟩
theorem is_slice {w : World} {base n : Nat} {e : TypeId} {v : Value} {xs : List Value} (h : w.ownsRow base e 1 v n xs) : ∃ a m c, v = .slice a m c := by
  obtain ⟨_, ⟨rfl, _⟩ | ⟨g, cap, cur, rfl, _⟩⟩ := h
  · exact ⟨_, _, _, rfl⟩
  · exact ⟨_, _, _, rfl⟩
/-- What a call of CutMarks leaves. -/
def CutPost (s : ByteArray) (w : World) (e : Ending) (w' : World) : Prop :=
  ∃ v, e = .returned (.agg #[.int .i64 (ccode s.data.toList), v]) ∧ w'.ownsRow w.heap.size 9 1 v (ctexts s.data.toList).length ((ctexts s.data.toList).map strv) ∧ Below w.heap.size w w'
theorem cut_post {s : ByteArray} {w w' : World} {v : Value} {c : Int} {ts : List (List UInt8)} (h : ccode s.data.toList = c ∧ ctexts s.data.toList = ts) (ho : w'.ownsRow w.heap.size 9 1 v ts.length (ts.map strv)) (hb : Below w.heap.size w w') : CutPost s w (.returned (.agg #[.int .i64 c, v])) w' := by
  refine ⟨v, by rw [h.1], by rw [h.2]; exact ho, hb⟩
set_option maxHeartbeats 2000000 in
theorem specCut (s : ByteArray) (w : World) (hs : s.size ≤ maxLen) : Calls Try.prog 7 #[.string s] w fun e w' => CutPost s w e w' := by
  unfold maxLen at hs
  by_cases h15 : 1500 < s.size
  · have HC : Hid (ccode s.data.toList = 2 ∧ ctexts s.data.toList = []) := cc_many h15
    go_enter Try.func7, Try.ntmps7
    go_wp2
    exact bodyPost_ret (v := .agg #[.int .i64 2, .slice none 0 0]) (by simp [results, Try.results7, go_sem]) rfl (cut_post HC.out (World.ownsRow_nil _ _ _ _) ((Below.refl _ _).alloc (Nat.le_refl _) _))
  · go_enter Try.func7, Try.ntmps7
    go_wp2_with fail
    refine (specCutL s _ (by omega)).mono ?_
    rintro e w1 ⟨hb, (⟨hg, rfl⟩ | ⟨hg, v, rfl, ho⟩)⟩
    · have HC : Hid (ccode s.data.toList = 5 ∧ ctexts s.data.toList = []) := cc_bad h15 hg
      clear hg
      obtain ⟨hc, hf⟩ := bcell hb
      simp only [World.size_alloc] at hc hf
      go_wp2
      refine bodyPost_ret (v := .agg #[.int .i64 5, .slice none 0 0]) (by simp [results, Try.results7, go_sem, hc]) rfl (cut_post HC.out (World.ownsRow_nil _ _ _ _) ?_)
      exact ((((Below.refl _ w).alloc (Nat.le_refl _) _).trans (hb.mono (by simp))).setCell (by simp) _).setCell (by simp) _
    · have HC : Hid (ccode s.data.toList = 0 ∧ ctexts s.data.toList = texts s.data.toList) := cc_ok h15 hg
      clear hg
      obtain ⟨hc, hf⟩ := bcell hb
      simp only [World.size_alloc] at hc hf
      have HO : Hid (w1.ownsRow (w.heap.size + 1) 9 1 v (texts s.data.toList).length ((texts s.data.toList).map strv)) := hid (by simpa using ho)
      obtain ⟨a, m, c, rfl⟩ := is_slice ho
      clear ho
      go_wp2
      refine bodyPost_ret (v := .agg #[.int .i64 0, .slice a m c]) (by simp [results, Try.results7, go_sem, hc]) rfl (cut_post HC.out ?_ ?_)
      · exact owns_base (ownsRow_setCell_below (ownsRow_setCell_below HO.out (by simp) _) (by simp) _) (by omega)
      · exact ((((Below.refl _ w).alloc (Nat.le_refl _) _).trans (hb.mono (by simp))).setCell (by simp) _).setCell (by simp) _
end Cut
end Go.Proofs.Ytbnpejijfnigaaa
