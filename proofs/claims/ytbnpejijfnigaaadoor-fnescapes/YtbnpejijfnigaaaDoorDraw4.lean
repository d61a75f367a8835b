/- What the specification draws for EscapeText: some text of at most 41 bytes; nothing of what was there has turned. -/
import Derived.Test.YtbnpejijfnigaaaDoorDraw3
import Derived.Test.YtbnpejijfnigaaaDoorUn8
namespace Go.Proofs.YtbnpejijfnigaaaDoor
open Go.Shelf Go.RowKit
set_option linter.unusedVariables false
namespace Drw
theorem made_one (w : World) : (w.alloc (.cells #[] 5)).ownsRow w.heap.size 5 1 (.slice (some ⟨w.heap.size, 0, none⟩) 0 0) ([] : List UInt8).length (Lib.byteCells []) :=
  World.ownsRow_made w (e := 5) (size := 1) (base := w.heap.size) #[] 0 (Nat.le_refl _) (by unfold maxLen; omega) rfl
theorem own_grown {w w' : World} {base S : Nat} {n : Nat} {v : Value} {xs : List Value} (h : w.ownsRow base 5 1 v n xs) (hg : w.grownBy w' (some S)) (hS : S < base) : w'.ownsRow base 5 1 v n xs :=
  h.kept hg (.inr fun e => by have := (h.lt S e).1; omega)
set_option maxHeartbeats 4000000 in
theorem value (B S len cap pos : Nat) (a : Option Addr) (w : World) (hs : Src w S a len cap pos) (hc : CodeAt B w a len) (hB : B ≤ S) (hl : len ≤ 1048576) (hp : pos ≤ 90000) :
    Calls Tryd.prog 22 #[.pointer (some ⟨S, 0, none⟩)] w fun e w' => ∃ (t : ByteArray) (p : Nat), t.size ≤ 7 ∧ p ≤ pos + 8 ∧ e = .returned (.string t) ∧ Src w' S a len cap p ∧ w.grownBy w' (some S) := by
  have hSl := hs.lt
  obtain ⟨i0, hi, hz0, hz1, hz2⟩ := info_parts Bld.infoByte
  have HSa := Esc.hid (hs.grown (World.grownBy_alloc w (.cells #[] 5) none) (by simp))
  have HCa := Esc.hid (hc.grown (World.grownBy_alloc w (.cells #[] 5) none) (by omega) (fun k e => by cases e))
  have hGa : w.grownBy (w.alloc (.cells #[] 5)) (some S) := ⟨rfl, rfl, rfl, by simp, fun k hk _ => Below.heap_alloc w _ k hk⟩
  have HOa := Esc.hid (made_one w)
  have hza : (w.alloc (.cells #[] 5)).heap.size = w.heap.size + 1 := by simp
  clear hs hc
  go_enter Tryd.func22, Tryd.ntmps22
  go_wp2_with fail
  generalize w.alloc (.cells #[] 5) = wa at *
  refine (next B S len cap pos 8 a wa HSa.out HCa.out hB hl (by omega) (by omega) (by omega)).mono ?_
  rintro e w1 ⟨r0, hr0, rfl, hs1, hg1⟩
  have HS1 := Esc.hid hs1
  have HC1 := Esc.hid (HCa.out.grown hg1 (by omega) (fun k e => by cases e; exact hB))
  have HO1 := Esc.hid (own_grown HOa.out hg1 hSl)
  have hG1 := grown_after hGa hg1
  have hz1' := hg1.size
  clear hs1 hg1 HSa HCa HOa hGa
  go_wp2_with fail
  go_loopw [3, 4] (fun ov i wr => ∃ (j p : Nat) (o : List UInt8), i = .int .i64 j ∧ j ≤ 7 ∧ o.length + j ≤ 7 ∧ p + j ≤ pos + 8 ∧ wr.ownsRow w.heap.size 5 1 ov o.length (Lib.byteCells o) ∧ Hid (Src wr S a len cap p) ∧ Hid (CodeAt B wr a len) ∧ w.grownBy wr (some S) ∧ w.heap.size + 1 ≤ wr.heap.size) (fun _ i _ => (intOf i).toNat)
  case atStart => exact ⟨r0, pos + 1, [], rfl, by omega, by simp; omega, by omega, HO1.out, HS1, HC1, hG1, by omega⟩
  case round =>
    obtain ⟨j, p, o, rfl, hj, hoj, hpj, hown, HS, HC, hG, hzr⟩ := hrel
    by_cases hj0 : 0 < j
    · have q0 : (0 : Int) < (j : Int) := by omega
      have hAL : wr.grownBy (wr.alloc (.cells #[.int .i64 97, .int .i64 98, .int .i64 60, .int .i64 62, .int .i64 38, .int .i64 34, .int .i64 39, .int .i64 32] 2)) none := World.grownBy_alloc wr _ none
      have HSb := Esc.hid (HS.out.grown hAL (by simp))
      have HCb := Esc.hid (HC.out.grown hAL (by omega) (fun k e => by cases e))
      have hownb := hown.alloc (.cells #[.int .i64 97, .int .i64 98, .int .i64 60, .int .i64 62, .int .i64 38, .int .i64 34, .int .i64 39, .int .i64 32] 2)
      have hGb : w.grownBy (wr.alloc (.cells #[.int .i64 97, .int .i64 98, .int .i64 60, .int .i64 62, .int .i64 38, .int .i64 34, .int .i64 39, .int .i64 32] 2)) (some S) := grown_after hG ⟨rfl, rfl, rfl, by simp, fun k hk _ => Below.heap_alloc wr _ k hk⟩
      go_wp2_with fail
      refine (pick B S len cap p wr.heap.size 8 [97, 98, 60, 62, 38, 34, 39, 32] a _ HSb.out HCb.out hB hl (by omega) rfl (by omega) (by omega) (by omega) (by simp) ?_).mono ?_
      · intro i z hz
        match i, hz with
        | 0, hz => cases hz; simp
        | 1, hz => cases hz; simp
        | 2, hz => cases hz; simp
        | 3, hz => cases hz; simp
        | 4, hz => cases hz; simp
        | 5, hz => cases hz; simp
        | 6, hz => cases hz; simp
        | 7, hz => cases hz; simp
      rintro e w2 ⟨z, hzm, rfl, hs2, hg2⟩
      have hz255 : z ≤ 126 := by
        simp only [List.mem_cons, List.not_mem_nil, or_false] at hzm
        omega
      have HS2 := Esc.hid hs2
      have HC2 := Esc.hid (HCb.out.grown hg2 (by simp; omega) (fun k e => by cases e; exact hB))
      have hown2 := own_grown hownb hg2 hSl
      have hG2 := grown_after hGb hg2
      have hzz2 := hg2.size
      rw [World.size_alloc] at hzz2
      obtain ⟨c, hc⟩ : ∃ c : UInt8, c.toNat = z := ⟨z.toUInt8, Un.val_byte hz255⟩
      clear hs2 hg2 hzm HSb HCb hownb hGb hAL
      have q5 : (z : Int) ≤ 126 := by omega
      obtain ⟨ao, co, rfl⟩ := Un.bslice hown2
      go_wp2_with (at_builtin; go_must (refine wpList_append_own _ rfl _ _ 22 rfl w.heap.size 5 i0 (.int .u8 0) 1 1 Tryd.underlying22 hi hz0 hz1 hz2 rfl (by decide) _ _ _ rfl (hown2.alloc _) ⟨w2.heap.size, 0, none⟩ 1 1 [.int .u8 z] rfl rfl (cell_one_new _ _ _) (by simp [Value.oneCell']) (by unfold maxLen; omega) (by omega) (by simp; omega) ?_); intro v' w3 hown' hgrow _)
      have hgr : w2.grownBy (w2.alloc (.cells #[.int .u8 z] 5)) none := World.grownBy_alloc w2 _ none
      have hne : ∀ k, (Value.slice ao o.length co).ownBlock = some k → w.heap.size ≤ k := fun k hk => (hown2.lt k hk).1
      have hSne : some S ≠ (Value.slice ao o.length co).ownBlock := fun e => by have := hne S e.symm; omega
      refine ⟨⟨j - 1, p + 1, o ++ [c], ?_, by omega, ?_, by omega, ?_, ?_, ?_, ?_, ?_⟩, ?_⟩
      · congr 1; omega
      · simp only [List.length_append, List.length_cons, List.length_nil]; omega
      · rw [Lib.byteCells_append]
        simpa [Lib.byteCells, hc] using hown'
      · exact (HS2.out.grown hgr (by simp)).grown hgrow hSne
      · exact (HC2.out.grown hgr (by omega) (fun k e => by cases e)).grown hgrow (by simp; omega) (fun k e => by have := hne k e; omega)
      · exact ⟨hgrow.os.trans (hgr.os.trans hG2.os), hgrow.tape.trans (hgr.tape.trans hG2.tape), hgrow.output.trans (hgr.output.trans hG2.output), Nat.le_trans hG2.size (Nat.le_trans hgr.size hgrow.size), fun k hk hkS => ((hgrow.block k (Nat.lt_of_lt_of_le hk (Nat.le_trans hG2.size hgr.size)) (fun e => by have := hne k e.symm; omega)).trans (hgr.block k (Nat.lt_of_lt_of_le hk hG2.size) (by simp))).trans (hG2.block k hk hkS)⟩
      · have := hgrow.size; simp at this; omega
      · simp [intOf]; omega
    · have q0 : ¬ (0 : Int) < (j : Int) := by omega
      have HCV := Esc.hid (Un.conv_own hown)
      obtain ⟨ao, co, rfl⟩ := Un.bslice hown
      go_wp2_with fail
      rw [HCV.out]
      simp only [Result.andThen]
      rw [Oper.upon_value]
      go_wp2
      go_ret
      exact ⟨⟨o.toArray⟩, p, by simp [ByteArray.size]; omega, by omega, rfl, HS.out, hG⟩
end Drw
end Go.Proofs.YtbnpejijfnigaaaDoor

