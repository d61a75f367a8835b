/- What the specification's UnescapeText answers. -/
import Derived.Test.YtbnpejijfnigaaaDoorUn7
import Derived.Test.YtbnpejijfnigaaaDoorUn5
import Derived.Laws.IdiomStrings
import Derived.Lib.BufferRead
namespace Go.Proofs.YtbnpejijfnigaaaDoor
open Go.Shelf Go.RowKit
set_option linter.unusedVariables false
namespace Un
open Esc
/-- A slice of bytes of one's own, as a string. -/
theorem conv_own {w : World} {base : Nat} {v : Value} {l : List UInt8} (h : w.ownsRow base 5 1 v l.length (Lib.byteCells l)) : Sem.run Tryd.prog (convert 22 9 v) w = .ok (.string ⟨l.toArray⟩) w := by
  obtain ⟨hl, ⟨rfl, h0⟩ | ⟨g, cap, cur, rfl, hbg, hg, hle, hm, hs, ht⟩⟩ := h
  · obtain rfl := List.length_eq_zero_iff.1 h0
    exact Lib.run_convert_nil_bytes w 22 9 5 0 Tryd.underlying22 Tryd.underlying5 Tryd.underlying9
  · refine run_convert_bytes_back (P := Tryd.prog) w 22 9 5 ⟨g, 0, none⟩ cap l Tryd.underlying22 Tryd.underlying5 Tryd.underlying9 ?_
    intro i hi
    have e : (⟨g, 0, none⟩ : Addr).add i = ⟨g, i, none⟩ := by rw [Addr.add_lit]; simp
    rw [e]
    have : cur[i]? = some (.int .u8 (l[i].toNat : Int)) := by
      have h2 := congrArg (·[i]?) ht
      simp only [Nat.mul_one, List.getElem?_take, Lib.byteCells, List.getElem?_map, List.getElem?_eq_getElem hi, Option.map_some, hi, if_true] at h2
      simpa using h2
    simp [World.cell?, hg, this]
theorem bslice {w : World} {base n : Nat} {v : Value} {xs : List Value} (h : w.ownsRow base 5 1 v n xs) : ∃ a cap, v = .slice a n cap := by
  obtain ⟨_, ⟨rfl, rfl⟩ | ⟨g, cap, cur, rfl, _⟩⟩ := h
  · exact ⟨_, _, rfl⟩
  · exact ⟨_, _, rfl⟩
theorem own_below {w w' : World} {base : Nat} {e : TypeId} {size n : Nat} {v : Value} {xs : List Value} (h : w.ownsRow base e size v n xs) (hb : Below w.heap.size w w') : w'.ownsRow base e size v n xs :=
  h.kept (row := none) ⟨hb.os, hb.tape, hb.output, hb.size, fun k hk _ => hb.block k hk⟩ (by cases v.ownBlock <;> simp)
theorem made0 (w : World) (ob : Obj) : ((w.alloc ob).alloc (.cells #[] 5)).ownsRow (w.heap.size + 1) 5 1 (.slice (some ⟨w.heap.size + 1, 0, none⟩) 0 0) ([] : List UInt8).length (Lib.byteCells []) := by
  have h := World.ownsRow_made (w.alloc ob) (e := 5) (size := 1) (base := w.heap.size + 1) #[] 0 (by simp) (by unfold maxLen; omega) rfl
  rw [World.size_alloc] at h
  exact h
set_option maxHeartbeats 2000000 in
theorem specUn (s : ByteArray) (w : World) (hs : s.size ≤ maxLen) :
    Calls Tryd.prog 7 #[.string s] w fun e w' => e = .returned (unVal s.data.toList) ∧ Below w.heap.size w w' := by
  unfold maxLen at hs
  by_cases h400 : 400 < s.size
  · have HW := hid (u_many (l := s.data.toList) (by rw [len_size]; exact h400))
    go_enter Tryd.func7, Tryd.ntmps7
    go_wp2
    exact bodyPost_ret (v := .agg #[.int .i64 2, .string { data := #[] }]) (by simp [results, Tryd.results7, go_sem]) rfl ⟨returned_agg HW.out.symm, (Below.refl _ _).alloc (Nat.le_refl _) _⟩
  · have h400' : ¬ 400 < s.data.toList.length := by rw [len_size]; exact h400
    have HLN := hid (len_size s)
    obtain ⟨i0, hi, hz0, hz1, hz2⟩ := info_parts Bld.infoByte
    go_enter Tryd.func7, Tryd.ntmps7
    go_wp2_with fail
    go_loopw [3, 4] (fun ov i wr => ∃ (k : Nat) (o : List UInt8), k ≤ s.size ∧ i = .int .i64 k ∧ Hid (Been s.data.toList k o) ∧ wr.ownsRow (w.heap.size + 1) 5 1 ov o.length (Lib.byteCells o) ∧ Below (w.heap.size + 1) (w.alloc (.cells #[.int .i64 0, .string { data := #[] }] 26)) wr) (fun _ i _ => s.size - (intOf i).toNat)
    case atStart => exact ⟨0, [], Nat.zero_le _, rfl, Been.zero _, made0 w _, (Below.refl _ _).alloc (by simp) _⟩
    case round =>
      obtain ⟨k, o, hk, rfl, HB, hown, hbl⟩ := hrel
      have hol : o.length ≤ k := HB.out.2
      have hzz := hbl.size
      rw [World.size_alloc] at hzz
      by_cases hlt : k < s.size
      · have hlt' : k < s.data.toList.length := by rw [HLN.out]; exact hlt
        have q1 : (k : Int) < (s.size : Int) := by omega
        go_wp2_with fail
        refine (specOne s k wr (by omega) hlt).mono ?_
        rintro e w1 ⟨b, n, rfl, hrd, hb1⟩
        have hz1' := hb1.size
        have hbl1 : Below (w.heap.size + 1) (w.alloc (.cells #[.int .i64 0, .string { data := #[] }] 26)) w1 := hbl.trans (hb1.mono (by omega))
        have hown1 := own_below hown hb1
        rcases hrd with hone | ⟨hone, hbad⟩
        · have hp := one_pos hone
          have hnl := one_le hone
          rw [HLN.out] at hnl
          have HBN : Hid (Been s.data.toList (k + n) (o ++ [b])) := HB.out.next hlt' hone
          have hn0 : 0 < n := hp.1
          have b1 : ((n : Int) == 0) = false := beq_eq_false_iff_ne.2 (by omega)
          clear hone hp
          obtain ⟨ao, co, rfl⟩ := bslice hown1
          have hbc : (Lib.byteCells o).length = o.length := by simp [Lib.byteCells]
          go_wp2_with (at_builtin; go_must (refine wpList_append_own _ rfl _ _ 22 rfl (w.heap.size + 1) 5 i0 (.int .u8 0) 1 1 Tryd.underlying22 hi hz0 hz1 hz2 rfl (by decide) _ _ _ rfl (hown1.alloc _) ⟨w1.heap.size, 0, none⟩ 1 1 [.int .u8 b.toNat] rfl rfl (cell_one_new _ _ _) (by simp [Value.oneCell']) (by unfold maxLen; omega) (by omega) (by simp; omega) ?_); intro v' w2 hown' hgrow _)
          refine ⟨⟨k + n, o ++ [b], by omega, by go_num, HBN, ?_, ?_⟩, by simp [intOf]; omega⟩
          · rw [Lib.byteCells_append]
            simpa [Lib.byteCells] using hown'
          · exact (hbl1.alloc (by omega) _).grown hgrow (by simp; omega) (fun k hk => (hown1.lt k hk).1)
        · subst hbad
          have HV := hid (u_bad h400' (HB.out.bad hlt' hone))
          obtain ⟨hc, hf⟩ := bcell hbl1
          clear hone
          go_wp2
          refine bodyPost_ret (v := .agg #[.int .i64 5, .string { data := #[] }]) (by simp [results, Tryd.results7, go_sem, hc]) rfl ⟨returned_agg HV.out.symm, ?_⟩
          exact ((((Below.refl _ w).alloc (Nat.le_refl _) _).trans (hbl1.mono (by omega))).setCell (by simp) _).setCell (by simp) _
      · have hrd := HB.out.done (by rw [HLN.out]; omega)
        have q1 : ¬ (k : Int) < (s.size : Int) := by omega
        have HCV := hid (conv_own hown)
        obtain ⟨ao, co, rfl⟩ := bslice hown
        by_cases ho : 40 < o.length
        · have HV := hid (u_long h400' hrd ho)
          have q2 : (40 : Int) < (o.length : Int) := by omega
          obtain ⟨hc, hf⟩ := bcell hbl
          go_wp2
          refine bodyPost_ret (v := .agg #[.int .i64 2, .string { data := #[] }]) (by simp [results, Tryd.results7, go_sem, hc]) rfl ⟨returned_agg HV.out.symm, ?_⟩
          exact ((((Below.refl _ w).alloc (Nat.le_refl _) _).trans (hbl.mono (by omega))).setCell (by simp) _).setCell (by simp) _
        · have HV := hid (u_ok h400' hrd ho)
          have q2 : ¬ (40 : Int) < (o.length : Int) := by omega
          obtain ⟨hc, hf⟩ := bcell hbl
          go_wp2_with fail
          rw [HCV.out]
          simp only [Result.andThen]
          rw [Oper.upon_value]
          go_wp2
          refine bodyPost_ret (v := .agg #[.int .i64 0, .string ⟨o.toArray⟩]) (by simp [results, Tryd.results7, go_sem, hc]) rfl ⟨returned_agg HV.out.symm, ?_⟩
          exact ((((Below.refl _ w).alloc (Nat.le_refl _) _).trans (hbl.mono (by omega))).setCell (by simp) _).setCell (by simp) _
end Un
end Go.Proofs.YtbnpejijfnigaaaDoor

