/- What the program's UnescapeText answers, where no number has a 0 ahead. Condition: the table of entities lies as its initialiser lays it. -/
import Derived.Test.YtbnpejijfnigaaaDoorUn4
namespace Go.Proofs.YtbnpejijfnigaaaDoor
open Go.Shelf Go.RowKit
set_option linter.unusedVariables false
namespace Un
open Esc
def rb (l : List UInt8) (k : Nat) : ByteArray := ⟨(l.drop k).toArray⟩
def strLen : Value → Nat
  | .string b => b.size
  | _ => 0
theorem rb_list (l : List UInt8) (k : Nat) : (rb l k).data.toList = l.drop k := by simp [rb]
theorem rb_size (l : List UInt8) (k : Nat) : (rb l k).size = l.length - k := by unfold rb ByteArray.size; simp
theorem rb_all (s : ByteArray) : rb s.data.toList 0 = s := by apply ByteArray.ext; simp [rb]
theorem rb_cut (l : List UInt8) (k n : Nat) (h : n ≤ l.length - k) : (rb l k).extract n (l.length - k) = rb l (k + n) := by
  rw [ext_take, rb_list]
  unfold rb
  rw [List.drop_drop, List.take_of_length_le (by rw [List.length_drop]; omega)]
theorem rb_ne {l : List UInt8} {k : Nat} (h : k < l.length) : (rb l k).toList.isEmpty = false := by
  rw [ByteArray.toList_eq, rb_list, List.isEmpty_eq_false_iff]; intro e; have := congrArg List.length e; simp at this; omega
theorem rb_nil {l : List UInt8} {k : Nat} (h : l.length ≤ k) : (rb l k).toList.isEmpty = true := by
  rw [ByteArray.toList_eq, rb_list, List.drop_eq_nil_of_le h]; rfl
/-- What is read up to a place. -/
def Been (l : List UInt8) (k : Nat) (o : List UInt8) : Prop := read l = (read (l.drop k)).map (o ++ ·) ∧ o.length ≤ k
theorem Been.zero (l : List UInt8) : Been l 0 [] := ⟨by simp, Nat.le_refl _⟩
theorem drop_ne {l : List UInt8} {k : Nat} (hk : k < l.length) : l.drop k ≠ [] := by intro e; have := congrArg List.length e; simp at this; omega
theorem Been.next {l o : List UInt8} {k n : Nat} {b : UInt8} (h : Been l k o) (hk : k < l.length) (h1 : one (l.drop k) = some (b, n)) : Been l (k + n) (o ++ [b]) := by
  have hp := one_pos h1
  refine ⟨?_, by simp only [List.length_append, List.length_cons, List.length_nil]; have := h.2; omega⟩
  rw [h.1, read_yes (drop_ne hk) h1, List.drop_drop, Option.map_map]
  congr 1
  funext x
  simp
theorem Been.bad {l o : List UInt8} {k : Nat} (h : Been l k o) (hk : k < l.length) (h1 : one (l.drop k) = none) : read l = none := by
  rw [h.1, read_no (drop_ne hk) h1]; rfl
theorem Been.done {l o : List UInt8} {k : Nat} (h : Been l k o) (hk : l.length ≤ k) : read l = some o := by
  rw [h.1, List.drop_eq_nil_of_le hk, read_nil]; simp
theorem one_le {l : List UInt8} {k n : Nat} {b : UInt8} (h1 : one (l.drop k) = some (b, n)) : n ≤ l.length - k := by
  have := (one_pos h1).2.1
  rwa [List.length_drop] at this
theorem keepA {T e : TypeId} {B b : Nat} {p : Value} {bs : List Value} {w w' : World} (h : Lib.BuilderAtF T e B b p bs w) (hb : Below w.heap.size w w') : Lib.BuilderAtF T e B b p bs w' := by
  have hlt := h.lt
  obtain ⟨hB, v, hv, hown, hne⟩ := h
  exact ⟨hB, v, (hb.block b hlt).trans hv, hown.kept (row := none) ⟨hb.os, hb.tape, hb.output, hb.size, fun k hk _ => hb.block k hk⟩ (by cases v.ownBlock <;> simp), hne⟩
theorem keepB {T e : TypeId} {B b : Nat} {bs : List Value} {w w' : World} (h : Lib.IsBuilderF T e B b bs w) (hb : Below w.heap.size w w') : Lib.IsBuilderF T e B b bs w' :=
  h.elim (fun x => .inl (keepA x hb)) (fun x => .inr (keepA x hb))
set_option maxHeartbeats 2000000 in
theorem implUn (s : ByteArray) (w : World) (hs : s.size ≤ maxLen) (hz : noz s.data.toList = true) (he : Ent w) (hw : 0 < w.heap.size) :
    Calls Tryd.prog 6 #[.string s] w fun e w' => e = .returned (unVal s.data.toList) ∧ Below w.heap.size w w' := by
  unfold maxLen at hs
  by_cases h400 : 400 < s.size
  · have HW := hid (u_many (l := s.data.toList) (by rw [len_size]; exact h400))
    go_enter Tryd.func6, Tryd.ntmps6
    go_wp2
    exact bodyPost_ret (v := .agg #[.int .i64 2, .string { data := #[] }]) (by simp [results, Tryd.results6, go_sem]) rfl ⟨returned_agg HW.out.symm, (Below.refl _ _).alloc (Nat.le_refl _) _⟩
  · have HE : Hid (Ent w) := he
    have HZ := hid hz
    have h400' : ¬ 400 < s.data.toList.length := by rw [len_size]; exact h400
    have HLN := hid (len_size s)
    clear he hz
    go_enter Tryd.func6, Tryd.ntmps6
    go_wp2_with fail
    go_loopw [4] (fun r wr => ∃ (k : Nat) (o : List UInt8), k ≤ s.size ∧ r = .string (rb s.data.toList k) ∧ Hid (Been s.data.toList k o) ∧ Lib.IsBuilderF 36 5 (w.heap.size + 1) (w.heap.size + 1) (Lib.byteCells o) wr ∧ Below (w.heap.size + 1) (w.alloc (.cells #[.int .i64 0, .string { data := #[] }] 26)) wr) (fun r _ => strLen r)
    case atStart => exact ⟨0, [], Nat.zero_le _, by rw [rb_all], Been.zero _, fresh w _, (Below.refl _ _).alloc (by simp) _⟩
    case round =>
      obtain ⟨k, o, hk, rfl, HB, hI, hbl⟩ := hrel
      have hol : o.length ≤ k := HB.out.2
      have hzz := blt hI
      have HR : Hid (Ent wr) := hid (Ent.below (Ent.below HE.out ((Below.refl _ w).alloc (Nat.le_refl _) (.cells #[.int .i64 0, .string { data := #[] }] 26)) hw) hbl (by omega))
      by_cases hlt : k < s.size
      · have hlt' : k < s.data.toList.length := by rw [HLN.out]; exact hlt
        have hne := rb_ne hlt'
        have HC := hid (readByte (rb s.data.toList k) wr (by rw [rb_size, HLN.out]; omega) (by rw [rb_size, HLN.out]; omega) (by rw [rb_list]; exact noz_drop _ _ HZ.out) HR.out)
        rw [rb_list] at HC
        have hrs := rb_size s.data.toList k
        rw [HLN.out] at hrs
        go_wp2_with fail
        refine HC.out.mono ?_
        rintro e w1 ⟨b, n, rfl, hrd, hb1⟩
        have hz1 := hb1.size
        have hbl1 : Below (w.heap.size + 1) (w.alloc (.cells #[.int .i64 0, .string { data := #[] }] 26)) w1 := hbl.trans (hb1.mono (by omega))
        have hI1 : Lib.IsBuilderF 36 5 (w.heap.size + 1) (w.heap.size + 1) (Lib.byteCells o) w1 := keepB hI hb1
        rcases hrd with hone | ⟨hone, hbad⟩
        · have hp := one_pos hone
          have hnl := one_le hone
          rw [HLN.out] at hnl
          have hcut := rb_cut s.data.toList k n (by rw [HLN.out]; exact hnl)
          rw [HLN.out] at hcut
          have HBN : Hid (Been s.data.toList (k + n) (o ++ [b])) := HB.out.next hlt' hone
          have HP := hid hp.2.2
          have hn0 : 0 < n := hp.1
          have b1 : ((n : Int) == 0) = false := beq_eq_false_iff_ne.2 (by omega)
          have q1 : (n : Int) ≤ ((rb s.data.toList k).size : Int) := by omega
          clear hone hp
          go_wp2_with fail
          refine (implPlain b _).mono ?_
          rintro e w' ⟨rfl, hw'⟩
          rw [HP.out]
          subst hw'
          go_wp2_with fail
          refine (Bld.writeByte (w.heap.size + 1) (w.heap.size + 1) (Lib.byteCells o) b.toNat _ hI1 (by simp [Lib.byteCells]; omega) (by omega)).mono ?_
          rintro e w2 ⟨rfl, hI2, hb2, -⟩
          have hI2' : Lib.IsBuilderF 36 5 (w.heap.size + 1) (w.heap.size + 1) (Lib.byteCells (o ++ [b])) w2 := .inr (by rw [Lib.byteCells_append]; exact hI2)
          clear hI2
          go_wp2
          refine ⟨⟨k + n, o ++ [b], by omega, ?_, HBN, hI2', hbl1.trans hb2⟩, ?_⟩
          · rfl
          · simp only [strLen]; rw [rb_size, hrs, HLN.out]; omega
        · have HV := hid (u_bad h400' (HB.out.bad hlt' hone))
          obtain ⟨hc, hf⟩ := bcell hbl1
          clear hone
          by_cases hn0 : n = 0
          · subst hn0
            go_wp2
            refine bodyPost_ret (v := .agg #[.int .i64 5, .string { data := #[] }]) (by simp [results, Tryd.results6, go_sem, hc]) rfl ⟨returned_agg HV.out.symm, ?_⟩
            exact ((((Below.refl _ w).alloc (Nat.le_refl _) _).trans (hbl1.mono (by omega))).setCell (by simp) _).setCell (by simp) _
          · have hpb : plainB b = false := hbad.resolve_left hn0
            have HP := hid hpb
            have b1 : ((n : Int) == 0) = false := beq_eq_false_iff_ne.2 (by omega)
            clear hbad hpb
            go_wp2_with (go_at_call 16; refine (implPlain b _).mono ?_; rintro e w' ⟨rfl, rfl⟩; rw [HP.out])
            refine bodyPost_ret (v := .agg #[.int .i64 5, .string { data := #[] }]) (by simp [results, Tryd.results6, go_sem, hc]) rfl ⟨returned_agg HV.out.symm, ?_⟩
            exact ((((Below.refl _ w).alloc (Nat.le_refl _) _).trans (hbl1.mono (by omega))).setCell (by simp) _).setCell (by simp) _
      · have hrd := HB.out.done (by rw [HLN.out]; omega)
        have hemp : (rb s.data.toList k).toList.isEmpty = true := rb_nil (by rw [HLN.out]; omega)
        have hbc : (Lib.byteCells o).length = o.length := by simp [Lib.byteCells]
        go_wp2_with fail
        refine (Tryd.Builder_Len_f (w.heap.size + 1) (w.heap.size + 1) (Lib.byteCells o) _ hI).mono ?_
        rintro e w1 ⟨rfl, hw1⟩
        subst hw1
        rw [hbc]
        by_cases ho : 40 < o.length
        · have HV := hid (u_long h400' hrd ho)
          have q1 : (40 : Int) < (o.length : Int) := by omega
          obtain ⟨hc, hf⟩ := bcell hbl
          go_wp2
          refine bodyPost_ret (v := .agg #[.int .i64 2, .string { data := #[] }]) (by simp [results, Tryd.results6, go_sem, hc]) rfl ⟨returned_agg HV.out.symm, ?_⟩
          exact ((((Below.refl _ w).alloc (Nat.le_refl _) _).trans (hbl.mono (by omega))).setCell (by simp) _).setCell (by simp) _
        · have HV := hid (u_ok h400' hrd ho)
          have q1 : ¬ (40 : Int) < (o.length : Int) := by omega
          go_wp2_with fail
          refine (Tryd.Builder_String_any_k (w.heap.size + 1) (w.heap.size + 1) o _ hI (by omega)).mono ?_
          rintro e w2 ⟨rfl, hI2, hb2, hk2⟩
          obtain ⟨hc, hf⟩ := bcell (hbl.trans hb2)
          have hz2 := blt hI2
          go_wp2
          refine bodyPost_ret (v := .agg #[.int .i64 0, .string ⟨o.toArray⟩]) (by simp [results, Tryd.results6, go_sem, hc]) rfl ⟨returned_agg HV.out.symm, ?_⟩
          exact ((((Below.refl _ w).alloc (Nat.le_refl _) _).trans ((hbl.trans hb2).mono (by omega))).setCell (by simp) _).setCell (by simp) _
end Un
end Go.Proofs.YtbnpejijfnigaaaDoor

