/- What strings.IndexAny answers for the two signs 60 and 62, at every text of at most 1500 bytes, whether it is UTF-8 or not. -/
import Derived.Test.YtbnpejijfnigaaaCut3
import Derived.Laws.RangeString
import Derived.Laws.RangeAny
import Derived.LoopN
import Derived.Deep.QuietTactic
import Derived.BigQuiet
import Derived.Deep.RegionWith
import Derived.Lib.OthersKept
import Derived.Lib.SpaceUEq
import Derived.Lib.TrimUEq
import Derived.Lib.TrimU
namespace Go.Proofs.Ytbnpejijfnigaaa
open Go.Shelf Go.RowKit
set_option linter.unusedVariables false
namespace Cut
set_option maxRecDepth 100000 in
set_option maxHeartbeats 2000000 in
theorem runeErr (w : World) : Calls Try.prog 26 #[.string { data := #[60, 62] }, .int .i32 65533] w fun e w' => e = .returned (.int .i64 (-1)) ∧ Below w.heap.size w w' := by
  have n0 : ∀ ty, Sem.run Try.prog (Instr.next (.pointer (some ⟨w.heap.size, 0, none⟩)) true ty) (w.iter { data := #[60, 62] } 0) = .ok (.tuple #[.bool true, .int .i64 0, .int .i32 60]) (w.iter { data := #[60, 62] } 1) := fun ty => run_next_ascii (P := Try.prog) w { data := #[60, 62] } 0 ty (by decide) (by decide)
  have n1 : ∀ ty, Sem.run Try.prog (Instr.next (.pointer (some ⟨w.heap.size, 0, none⟩)) true ty) (w.iter { data := #[60, 62] } 1) = .ok (.tuple #[.bool true, .int .i64 1, .int .i32 62]) (w.iter { data := #[60, 62] } 2) := fun ty => run_next_ascii (P := Try.prog) w { data := #[60, 62] } 1 ty (by decide) (by decide)
  have n2 : ∀ ty, Sem.run Try.prog (Instr.next (.pointer (some ⟨w.heap.size, 0, none⟩)) true ty) (w.iter { data := #[60, 62] } 2) = .ok (.tuple #[.bool false]) (w.iter { data := #[60, 62] } 2) := fun ty => run_next_end (P := Try.prog) w { data := #[60, 62] } 2 ty (by decide)
  go_enter Try.func26, Try.ntmps26
  go_wp2
  refine wp_loop_rounds 3 ?_
  rw [rounds_succ]
  go_wp2
  rw [rounds_succ]
  go_wp2
  rw [rounds_succ]
  go_wp2
  go_ret
  exact ⟨rfl, (Below.refl _ w).alloc (Nat.le_refl _) _⟩
set_option maxRecDepth 100000 in
set_option maxHeartbeats 2000000 in
theorem runeBad (r : Int) (h : 128 ≤ r) (hr : r ≤ 1114111) (he : r ≠ 65533) (hv : Lib.validRune r = false) (w : World) : Calls Try.prog 26 #[.string { data := #[60, 62] }, .int .i32 r] w fun e w' => e = .returned (.int .i64 (-1)) ∧ Below w.heap.size w w' := by
  have HV : Hid (Lib.validRune r = false) := hv
  have b1 : (r == 65533) = false := beq_eq_false_iff_ne.2 he
  have b2 : ¬ r < 128 := by omega
  have b3 : (0 : Int) ≤ r := by omega
  clear hv
  go_enter Try.func26, Try.ntmps26
  go_wp2_with fail
  refine (Try.utf8_ValidRune r _).mono ?_
  rintro e w' ⟨rfl, rfl⟩
  rw [HV.out]
  go_wp2
  go_ret
  exact ⟨rfl, Below.refl _ _⟩
theorem enc2 {r : Int} (h : 128 ≤ r) (h2 : r < 2048) : ∃ x y : UInt8, Utf8.encode r = ⟨#[x, y]⟩ ∧ 128 ≤ y.toNat := by
  refine ⟨UInt8.ofNat (0xC0 + r.toNat / 64), UInt8.ofNat (0x80 + r.toNat % 64), ?_, ?_⟩
  · unfold Utf8.encode
    have hv : Utf8.valid r = true := by unfold Utf8.valid; simp; omega
    rw [hv]
    simp only [if_true]
    rw [if_neg (by omega), if_pos (by omega)]
  · simp; omega
theorem enc3 {r : Int} (h : 2048 ≤ r) (h2 : r ≤ 1114111) (hv : Lib.validRune r = true) : ∃ n : Nat, (Utf8.encode r).size = n ∧ 3 ≤ n ∧ n ≤ 4 := by
  have hv' : Utf8.valid r = true := by
    unfold Lib.validRune at hv
    have := of_decide_eq_true hv
    unfold Utf8.valid; simp; omega
  refine ⟨_, rfl, ?_⟩
  unfold Utf8.encode
  rw [hv']
  simp only [if_true]
  rw [if_neg (by omega), if_neg (by omega)]
  split
  · exact ⟨by simp [ByteArray.size], by simp [ByteArray.size]⟩
  · exact ⟨by simp [ByteArray.size], by simp [ByteArray.size]⟩
set_option maxRecDepth 100000 in
set_option maxHeartbeats 2000000 in
theorem runeOk3 (r : Int) (h : 2048 ≤ r) (hr : r ≤ 1114111) (he : r ≠ 65533) (hv : Lib.validRune r = true) (w : World) : Calls Try.prog 26 #[.string { data := #[60, 62] }, .int .i32 r] w fun e w' => e = .returned (.int .i64 (-1)) ∧ Below w.heap.size w w' := by
  obtain ⟨n, hn, hn3, hn4⟩ := enc3 h hr hv
  have HV : Hid (Lib.validRune r = true) := hv
  have b1 : (r == 65533) = false := beq_eq_false_iff_ne.2 he
  have b2 : ¬ r < 128 := by omega
  have b3 : (0 : Int) ≤ r := by omega
  have q1 : (3 : Int) ≤ (n : Int) := by omega
  have q2 : (n : Int) ≤ 4 := by omega
  clear hv
  go_enter Try.func26, Try.ntmps26
  go_wp2_with fail
  refine (Try.utf8_ValidRune r _).mono ?_
  rintro e w' ⟨rfl, rfl⟩
  rw [HV.out]
  go_wp2_with fail
  go_step3
  go_wp2_with fail
  refine wp_loop_rounds 1 ?_
  rw [rounds_succ]
  go_wp2
  simp only [Exit.noGoto]
  go_ret
  exact ⟨rfl, Below.refl _ _⟩
set_option maxRecDepth 100000 in
set_option maxHeartbeats 2000000 in
theorem runeOk2 (r : Int) (h : 128 ≤ r) (hr : r < 2048) (hv : Lib.validRune r = true) (w : World) : Calls Try.prog 26 #[.string { data := #[60, 62] }, .int .i32 r] w fun e w' => e = .returned (.int .i64 (-1)) ∧ Below w.heap.size w w' := by
  obtain ⟨x, y, hxy, hy⟩ := enc2 h hr
  have hib : ∀ c, Lib.indexByte [] c = -1 := fun _ => rfl
  have HV : Hid (Lib.validRune r = true) := hv
  have b1 : (r == 65533) = false := beq_eq_false_iff_ne.2 (by omega)
  have b2 : ¬ r < 128 := by omega
  have b3 : (0 : Int) ≤ r := by omega
  have b4 : ((((({ data := #[60, 62] } : ByteArray)[1]'(by decide)).toNat : Nat) : Int) != (((({ data := #[x, y] } : ByteArray)[1]'(by simp [ByteArray.size])).toNat : Nat) : Int)) = true := by rw [bne_iff_ne]; show (62 : Int) ≠ (y.toNat : Int); omega
  clear hv
  go_enter Try.func26, Try.ntmps26
  go_wp2_with fail
  refine (Try.utf8_ValidRune r _).mono ?_
  rintro e w' ⟨rfl, rfl⟩
  rw [HV.out]
  go_wp2_with fail
  go_step3
  go_wp2_with fail
  refine wp_loop_rounds 1 ?_
  rw [rounds_succ]
  go_wp2_with fail
  go_step3
  go_wp2_with fail
  go_quiet (fail)
  have hBW : Below w'.heap.size w' (w'.drewN nq) := ⟨rfl, rfl, rfl, Nat.le_refl _, fun _ _ => rfl⟩
  generalize w'.drewN nq = W at *
  go_wp2_with fail
  go_region_with ((go_at_call 31; refine (Try.strings_IndexByte _ _ _).mono ?_; rintro e w2 ⟨rfl, rfl⟩))
  all_goals go_wp2
  all_goals simp only [Exit.noGoto, Exit.inBlock, Exit.then]
  all_goals go_ret
  all_goals exact ⟨rfl, hBW.drew⟩
theorem runeNo (r : Int) (h : 128 ≤ r) (hr : r ≤ 1114111) (w : World) : Calls Try.prog 26 #[.string { data := #[60, 62] }, .int .i32 r] w fun e w' => e = .returned (.int .i64 (-1)) ∧ Below w.heap.size w w' := by
  by_cases he : r = 65533
  · subst he; exact runeErr w
  · cases hv : Lib.validRune r
    · exact runeBad r h hr he hv w
    · by_cases h2 : r < 2048
      · exact runeOk2 r h h2 hv w
      · exact runeOk3 r (by omega) hr he hv w
theorem high_no {c : UInt8} (h : 128 ≤ c.toNat) : ([60, 62] : List UInt8).contains c = false := has_no (by omega) (by omega)
/-- Behind the first byte of a rune stand bytes that are none of the two signs. -/
theorem noAny_rune {s : ByteArray} {pos : Nat} (hp : pos < s.size) (h : 128 ≤ s[pos].toNat) (hn : Lib.NoAny s.data.toList [60, 62] pos) :
    Lib.NoAny s.data.toList [60, 62] (pos + (Utf8.decode s pos).2) ∧ pos + (Utf8.decode s pos).2 ≤ s.size := by
  have hd := Lib.decode_N s pos
  have hc := Lib.decodeN_conts (s.data.toList.length - pos) (s.data.toList.getD pos 0).toNat (s.data.toList.getD (pos + 1) 0).toNat (s.data.toList.getD (pos + 2) 0).toNat (s.data.toList.getD (pos + 3) 0).toNat
  rw [← hd, len_size] at hc
  generalize (Utf8.decode s pos).2 = d at *
  obtain ⟨h1, h2, h3, h4⟩ := hc
  have key : ∀ k, 1 ≤ k → k < d → ∀ b, s.data.toList[pos + k]? = some b → 128 ≤ b.toNat := by
    intro k hk hkd b hb
    have hg : s.data.toList.getD (pos + k) 0 = b := by simp [List.getD, hb]
    rcases (show k = 1 ∨ k = 2 ∨ k = 3 by omega) with rfl | rfl | rfl
    · have := (h1 (by omega)).1; rw [hg] at this; omega
    · have := (h2 (by omega)).1; rw [hg] at this; omega
    · have := (h3 (by omega)).1; rw [hg] at this; omega
  constructor
  · intro j b hj hb
    rcases Nat.lt_trichotomy j pos with hlt | rfl | hgt
    · exact hn j b hlt hb
    · have : s.data.toList[j]? = some s[j] := by rw [List.getElem?_eq_getElem (by rw [len_size]; exact hp)]; rfl
      rw [this] at hb
      cases hb
      exact high_no h
    · have := key (j - pos) (by omega) (by omega) b (by rw [show pos + (j - pos) = j from by omega]; exact hb)
      exact high_no this
  · rcases (show d ≤ 1 ∨ d = 2 ∨ d = 3 ∨ d = 4 by omega) with hh | rfl | rfl | rfl
    · omega
    · have := (h1 (by omega)).2; omega
    · have := (h2 (by omega)).2; omega
    · have := (h3 (by omega)).2; omega
set_option maxRecDepth 100000 in
set_option maxHeartbeats 4000000 in
theorem iaShort (s : ByteArray) (h8 : s.size ≤ 8) : IAok s := by
  intro w
  have hemp : ({ data := #[60, 62] } : ByteArray).toList.isEmpty = false := by rw [ByteArray.toList_eq]; rfl
  have h8z : ¬ (8 : Int) < (s.size : Int) := by omega
  go_enter Try.func23, Try.ntmps23
  go_wp2
  go_loopw [9, 10] (fun _ _ wr => ∃ pos : Nat, wr.heap[w.heap.size]? = some (.stringIter s pos) ∧ Below w.heap.size w wr ∧ pos ≤ s.size ∧ Hid (Lib.NoAny s.data.toList [60, 62] pos)) (fun _ _ wr => s.size - wr.iterPos w.heap.size)
  case atStart => exact ⟨0, World.iter_heap w s 0, (Below.refl _ w).alloc (Nat.le_refl _) _, Nat.zero_le _, Lib.NoAny.zero _ _⟩
  case round =>
    obtain ⟨pos, hit, hbw, hps, HN⟩ := hrel
    have hsz : w.heap.size < wr.heap.size := (Array.getElem?_eq_some_iff.1 hit).1
    by_cases hp : pos < s.size
    · have hnx : ∀ ty, Sem.run Try.prog (Instr.next (.pointer (some ⟨w.heap.size, 0, none⟩)) true ty) wr = .ok (.tuple #[.bool true, .int .i64 pos, .int .i32 (Utf8.decode s pos).1]) (wr.iterAt w.heap.size s (pos + (Utf8.decode s pos).2)) := fun ty => Lib.run_next_any_at wr w.heap.size s pos ty hit hp
      have hwd := Lib.width_pos s pos
      have hd1 := Lib.rune_le s pos
      have hit2 := Lib.iterAt_heap wr w.heap.size s pos (pos + (Utf8.decode s pos).2) hit
      have hbw2 := Lib.below_iterAt hbw (k := w.heap.size) (Nat.le_refl _) s (pos + (Utf8.decode s pos).2)
      have hsz2 : w.heap.size < (wr.iterAt w.heap.size s (pos + (Utf8.decode s pos).2)).heap.size := by rw [Lib.iterAt_size]; omega
      by_cases h128 : 128 ≤ s[pos].toNat
      · have hh := decode_high s pos hp h128
        have HX : Hid (Lib.NoAny s.data.toList [60, 62] (pos + (Utf8.decode s pos).2) ∧ pos + (Utf8.decode s pos).2 ≤ s.size) := noAny_rune hp h128 HN.out
        have HIT : Hid ((wr.iterAt w.heap.size s (pos + (Utf8.decode s pos).2)).heap[w.heap.size]? = some (.stringIter s (pos + (Utf8.decode s pos).2))) := hit2
        have HIT0 : Hid (wr.heap[w.heap.size]? = some (.stringIter s pos)) := hit
        clear hit hit2 h128
        generalize (Utf8.decode s pos).2 = d at *
        generalize (Utf8.decode s pos).1 = r at *
        generalize hW : wr.iterAt w.heap.size s (pos + d) = W at *
        have HW : Hid (wr.iterAt w.heap.size s (pos + d) = W) := hW
        clear hW
        have hr1 : (128 : Int) ≤ (r : Int) := by omega
        have hr2 : (r : Int) ≤ 1114111 := by omega
        go_wp2_with fail
        refine (runeNo r hr1 hr2 _).mono ?_
        rintro e w2 ⟨rfl, hb2⟩
        have hit3 : w2.heap[w.heap.size]? = some (.stringIter s (pos + d)) := (hb2.block _ hsz2).trans HIT.out
        have HIT3 : Hid (w2.heap[w.heap.size]? = some (.stringIter s (pos + d))) := hit3
        have hb3 : Below w.heap.size w w2 := hbw2.trans (hb2.mono (by omega))
        clear hit3
        go_wp2
        refine ⟨⟨pos + d, HIT3.out, hb3, HX.out.2, HX.out.1⟩, ?_⟩
        simp only [World.iterPos, HIT3.out, HIT0.out]
        omega
      · have hda := decode_ascii s pos hp (by omega)
        rw [hda] at hnx hit2 hbw2 hsz2
        clear hda hwd hd1
        have HIT : Hid ((wr.iterAt w.heap.size s (pos + 1)).heap[w.heap.size]? = some (.stringIter s (pos + 1))) := hit2
        have HIT0 : Hid (wr.heap[w.heap.size]? = some (.stringIter s pos)) := hit
        have hxl : s.data.toList[pos]? = some s[pos] := by rw [List.getElem?_eq_getElem (by rw [len_size]; exact hp)]; rfl
        have HXL : Hid (s.data.toList[pos]? = some s[pos]) := hxl
        clear hit hit2 hxl
        generalize s[pos] = c at *
        generalize hW : wr.iterAt w.heap.size s (pos + 1) = W at *
        have HW : Hid (wr.iterAt w.heap.size s (pos + 1) = W) := hW
        clear hW
        have hc : (c.toNat : Int) < 128 := by omega
        have hback : ((c.toNat : Int)).toNat.toUInt8 = c := by simp
        have HBK : Hid (((c.toNat : Int)).toNat.toUInt8 = c) := hback
        clear hback
        have HCT : Hid (([60, 62] : List UInt8).contains c = decide (0 ≤ Lib.indexByte [60, 62] c)) := Lib.contains_iff_indexByte [60, 62] c
        cases hin : ([60, 62] : List UInt8).contains c
        · have hneg : ¬ 0 ≤ Lib.indexByte [60, 62] c := by
            have h := HCT.out
            rw [hin] at h
            intro h0
            rw [decide_eq_true h0] at h
            cases h
          have HX : Hid (Lib.NoAny s.data.toList [60, 62] (pos + 1)) := HN.out.succ HXL.out hin
          generalize hz : Lib.indexByte [60, 62] c = z at *
          have HZ : Hid (Lib.indexByte [60, 62] c = z) := hz
          clear hz hin
          go_wp2_with fail
          refine (Try.strings_IndexRune_ascii _ _ _ (by omega) hc).mono ?_
          rintro e w2 ⟨rfl, hw2⟩
          obtain rfl := hw2.symm
          rw [HBK.out, show Lib.indexByte ({ data := #[60, 62] } : ByteArray).data.toList c = z from HZ.out]
          go_wp2
          refine ⟨⟨pos + 1, HIT.out, hbw2, by omega, HX.out⟩, ?_⟩
          simp only [World.iterPos, HIT.out, HIT0.out]
          omega
        · have hneg : 0 ≤ Lib.indexByte [60, 62] c := by
            have h := HCT.out
            rw [hin] at h
            exact of_decide_eq_true h.symm
          have HX : Hid (Lib.indexAny s.data.toList [60, 62] = (pos : Int)) := Lib.indexAny_hit HN.out HXL.out hin
          generalize hz : Lib.indexByte [60, 62] c = z at *
          have HZ : Hid (Lib.indexByte [60, 62] c = z) := hz
          clear hz hin
          go_wp2_with fail
          refine (Try.strings_IndexRune_ascii _ _ _ (by omega) hc).mono ?_
          rintro e w2 ⟨rfl, hw2⟩
          obtain rfl := hw2.symm
          rw [HBK.out, show Lib.indexByte ({ data := #[60, 62] } : ByteArray).data.toList c = z from HZ.out]
          go_wp2
          go_ret
          exact ⟨by rw [HX.out]; rfl, hbw2⟩
    · obtain rfl : pos = s.size := by omega
      have hnx : ∀ ty, Sem.run Try.prog (Instr.next (.pointer (some ⟨w.heap.size, 0, none⟩)) true ty) wr = .ok (.tuple #[.bool false]) wr := fun ty => Lib.run_next_end_at wr w.heap.size s s.size ty hit hp
      have HX : Hid (Lib.indexAny s.data.toList [60, 62] = -1) := Lib.indexAny_none (by rw [len_size]; exact HN.out)
      have HIT0 : Hid (wr.heap[w.heap.size]? = some (.stringIter s s.size)) := hit
      clear hit
      go_wp2
      go_ret
      exact ⟨by rw [HX.out]; rfl, hbw⟩
theorem iaLong (s : ByteArray) (h8 : 8 < s.size) (hs : s.size ≤ 1500) : IAok s := by
  intro w
  refine (Try.strings_IndexAny_long (fun _ => by kernel_rfl) s { data := #[60, 62] } w (by decide) h8 (by omega) (by decide) ?_).mono ?_
  · intro j b hb
    match j, hb with
    | 0, hb => cases hb; decide
    | 1, hb => cases hb; decide
  · rintro e w' ⟨rfl, rfl⟩
    exact ⟨rfl, ((Below.refl _ w).alloc (Nat.le_refl _) _).alloc (by simp) _⟩
theorem ia (s : ByteArray) (hs : s.size ≤ 1500) : IAok s := by
  by_cases h8 : 8 < s.size
  · exact iaLong s h8 hs
  · exact iaShort s (by omega)
end Cut
end Go.Proofs.Ytbnpejijfnigaaa
