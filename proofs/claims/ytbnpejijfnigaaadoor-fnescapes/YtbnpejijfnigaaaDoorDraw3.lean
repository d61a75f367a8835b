/- What the specification draws for UnescapeText: some text of at most 401 bytes in which no number has a 0 ahead; nothing of what was there has turned. -/
import Derived.Test.YtbnpejijfnigaaaDoorDraw1
import Derived.Test.YtbnpejijfnigaaaDoorUn0
import Derived.Laws.IdiomStrings
import Derived.Laws.OwnMore
namespace Go.Proofs.YtbnpejijfnigaaaDoor
open Go.RowKit
set_option linter.unusedVariables false
namespace Drw
def Pc (t : ByteArray) : Prop := Un.noz t.data.toList = true ∧ t.data.toList.head? ≠ some 35 ∧ t.data.toList.head? ≠ some 48
def arr : Array Value := #[.string { data := #[97] }, .string { data := #[38, 108, 116, 59] }, .string { data := #[38, 97, 109, 112, 59] }, .string { data := #[38, 35, 54, 53, 59] }, .string { data := #[38, 97, 112, 111, 115, 59] }, .string { data := #[38, 113, 117, 111, 116, 59] }, .string { data := #[38] }, .string { data := #[38, 35, 57, 59] }, .string { data := #[60] }, .string { data := #[38, 35, 49, 48, 48, 48, 59] }, .string { data := #[38, 103, 116] }]
theorem arr_get (w : World) (z : Nat) (hz : z < 11) : ∃ t : ByteArray, (t.size ≤ 12 ∧ Pc t) ∧ (w.alloc (.cells arr 9)).cell? ⟨w.heap.size, z, none⟩ = some (.string t) := by
  have h : ∃ t : ByteArray, (t.size ≤ 12 ∧ Pc t) ∧ arr[z]? = some (.string t) := by
    match z, hz with
    | 0, _ => exact ⟨_, ⟨by decide, by decide, by decide, by decide⟩, rfl⟩
    | 1, _ => exact ⟨_, ⟨by decide, by decide, by decide, by decide⟩, rfl⟩
    | 2, _ => exact ⟨_, ⟨by decide, by decide, by decide, by decide⟩, rfl⟩
    | 3, _ => exact ⟨_, ⟨by decide, by decide, by decide, by decide⟩, rfl⟩
    | 4, _ => exact ⟨_, ⟨by decide, by decide, by decide, by decide⟩, rfl⟩
    | 5, _ => exact ⟨_, ⟨by decide, by decide, by decide, by decide⟩, rfl⟩
    | 6, _ => exact ⟨_, ⟨by decide, by decide, by decide, by decide⟩, rfl⟩
    | 7, _ => exact ⟨_, ⟨by decide, by decide, by decide, by decide⟩, rfl⟩
    | 8, _ => exact ⟨_, ⟨by decide, by decide, by decide, by decide⟩, rfl⟩
    | 9, _ => exact ⟨_, ⟨by decide, by decide, by decide, by decide⟩, rfl⟩
    | 10, _ => exact ⟨_, ⟨by decide, by decide, by decide, by decide⟩, rfl⟩
  obtain ⟨t, ht, hz⟩ := h
  exact ⟨t, ht, by unfold World.cell?; rw [heap_alloc_new]; exact hz⟩
theorem infoByte : (Tryd.prog.info? 5).map (fun i => (i.zero, i.size, i.bytes)) = some (some (.int .u8 0), 1, 1) := by kernel_rfl
def zeros : Array Value := madeCells (Value.int .u8 0).cells (401 * 1)
theorem mk401 (w : World) : Sem.run Tryd.prog (Instr.makeSlice 22 (.int .i64 401) (.int .i64 401)) w = .ok (.slice (some ⟨w.heap.size, 0, none⟩) 401 401) (w.alloc (.cells zeros 5)) := by
  obtain ⟨i0, hi, hz0, hz1, hz2⟩ := info_parts infoByte
  have h := run_makeSlice (P := Tryd.prog) w 22 5 i0 (.int .u8 0) Tryd.underlying22 hi hz0 .i64 .i64 401 401 (by omega) (by omega) (by rw [hz1]; decide) (by rw [hz2]; decide) (by omega)
  rw [hz1] at h
  exact h
theorem zeros_get (i : Nat) (h : i < 401) : zeros[i]? = some (.int .u8 0) := by
  have e : zeros.toList = List.replicate 401 (Value.int .u8 0) := toList_madeCells_one (.int .u8 0) 401
  rw [← Array.getElem?_toList, e, List.getElem?_replicate, if_pos h]
theorem convL (w : World) (l : List UInt8) (cs : Array Value) (cap : Nat) (h : ∀ i (hi : i < l.length), cs[i]? = some (.int .u8 (l[i].toNat : Int))) :
    Sem.run Tryd.prog (convert 22 9 (.slice (some ⟨w.heap.size, 0, none⟩) l.length cap)) (w.alloc (.cells cs 5)) = .ok (.string ⟨l.toArray⟩) (w.alloc (.cells cs 5)) := by
  refine run_convert_bytes_back (P := Tryd.prog) (w.alloc (.cells cs 5)) 22 9 5 ⟨w.heap.size, 0, none⟩ cap l Tryd.underlying22 Tryd.underlying5 Tryd.underlying9 ?_
  intro i hi
  have e : (⟨w.heap.size, 0, none⟩ : Addr).add i = ⟨w.heap.size, i, none⟩ := by rw [Addr.add_lit]; simp
  rw [e]
  unfold World.cell?
  rw [heap_alloc_new]
  exact h i hi
def zl : List UInt8 := List.replicate 401 0
theorem zl_len : zl.length = 401 := List.length_replicate
theorem zl_get (i : Nat) (h : i < zl.length) : zl[i] = 0 := List.getElem_replicate _
def zt : ByteArray := ⟨zl.toArray⟩
theorem zt_size : zt.size = 401 := zl_len
theorem conv401 (w : World) : Sem.run Tryd.prog (convert 22 9 (.slice (some ⟨w.heap.size, 0, none⟩) 401 401)) (w.alloc (.cells zeros 5)) = .ok (.string zt) (w.alloc (.cells zeros 5)) := by
  have h := convL w zl zeros 401 (fun i hi => by rw [zeros_get i (by rw [zl_len] at hi; exact hi), zl_get i hi]; rfl)
  rw [zl_len] at h
  exact h
theorem noz_rep : ∀ n : Nat, Un.noz (List.replicate n 0) = true
  | 0 => rfl
  | n + 1 => by rw [List.replicate_succ]; unfold Un.noz; rw [noz_rep n]; simp [List.isPrefixOf]
theorem zt_noz : Un.noz zt.data.toList = true := noz_rep 401
theorem app_list (a b : ByteArray) : (a ++ b).data.toList = a.data.toList ++ b.data.toList := by simp
theorem below_of {B S : Nat} {w w' : World} (h : w.grownBy w' (some S)) (hB : B ≤ S) (hw : B ≤ w.heap.size) : Below B w w' := (Below.refl B w).grown h hw (fun k e => by cases e; exact hB)
theorem size_app (a b : ByteArray) : (a ++ b).size = a.size + b.size := by simp
set_option maxHeartbeats 4000000 in
theorem draw (len cap : Nat) (a : Option Addr) (w : World) (hc : CodeAt w.heap.size w a len) (hl : len ≤ 1048576) :
    Calls Tryd.prog 5 #[.slice a len cap] w fun e w' => ∃ t : ByteArray, t.size ≤ 401 ∧ Un.noz t.data.toList = true ∧ e = .returned (.string t) ∧ Below w.heap.size w w' := by
  have HC : Hid (CodeAt w.heap.size w a len) := hc
  clear hc
  go_enter Tryd.func5, Tryd.ntmps5
  go_wp2_with fail
  refine (source a len cap _).mono ?_
  rintro e w0 ⟨rfl, rfl⟩
  have HS0 : Hid (Src (w.alloc (.cells #[.slice a len cap, .int .i64 0] 51)) w.heap.size a len cap 0) := heap_alloc_new w _
  have HC0 : Hid (CodeAt w.heap.size (w.alloc (.cells #[.slice a len cap, .int .i64 0] 51)) a len) := HC.out.grown (World.grownBy_alloc w _ none) (Nat.le_refl _) (fun k e => by cases e)
  have hB0 : Below w.heap.size w (w.alloc (.cells #[.slice a len cap, .int .i64 0] 51)) := (Below.refl _ w).alloc (Nat.le_refl _) _
  have hz0 : w.heap.size < (w.alloc (.cells #[.slice a len cap, .int .i64 0] 51)).heap.size := by simp
  go_wp2_with fail
  generalize w.alloc (.cells #[.slice a len cap, .int .i64 0] 51) = w0 at *
  refine (next w.heap.size w.heap.size len cap 0 7 a w0 HS0.out HC0.out (Nat.le_refl _) hl (by omega) (by omega) (by omega)).mono ?_
  rintro e w1 ⟨r0, hr0, rfl, hs1, hg1⟩
  have HS1 : Hid (Src w1 w.heap.size a len cap 1) := hs1
  have HC1 : Hid (CodeAt w.heap.size w1 a len) := HC0.out.grown hg1 (by omega) (fun k e => by cases e; exact Nat.le_refl _)
  have hB1 : Below w.heap.size w w1 := hB0.trans (below_of hg1 (Nat.le_refl _) (by omega))
  clear hs1 hg1 HS0 HC0 hB0
  go_wp2_with fail
  go_loopw [4, 5] (fun o i wr => ∃ (j pos : Nat) (t : ByteArray), i = .int .i64 j ∧ o = .string t ∧ j ≤ 6 ∧ t.size + 12 * j ≤ 72 ∧ Hid (Un.noz t.data.toList = true) ∧ pos + 3 * j ≤ 30 ∧ Hid (Src wr w.heap.size a len cap pos) ∧ Hid (CodeAt w.heap.size wr a len) ∧ Below w.heap.size w wr ∧ w.heap.size < wr.heap.size) (fun _ i _ => (intOf i).toNat)
  case atStart => exact ⟨r0, 1, _, rfl, rfl, by omega, by simp [ByteArray.size]; omega, rfl, by omega, HS1, HC1, hB1, HS1.out.lt⟩
  case round =>
    obtain ⟨j, pos, t, rfl, rfl, hj, ht, HNZ, hpos, HS, HCw, hB, hlt⟩ := hrel
    by_cases hj0 : 0 < j
    · have q0 : (0 : Int) < (j : Int) := by omega
      have HSa : Hid (Src (wr.alloc (.cells arr 9)) w.heap.size a len cap pos) := HS.out.grown (World.grownBy_alloc wr _ none) (by simp)
      have HCa : Hid (CodeAt w.heap.size (wr.alloc (.cells arr 9)) a len) := HCw.out.grown (World.grownBy_alloc wr _ none) (by omega) (fun k e => by cases e)
      have HAR : Hid (∀ z, z < 11 → ∃ t : ByteArray, (t.size ≤ 12 ∧ Pc t) ∧ (wr.alloc (.cells arr 9)).cell? ⟨wr.heap.size, z, none⟩ = some (.string t)) := fun z hz => arr_get wr z hz
      have hza : (wr.alloc (.cells arr 9)).heap.size = wr.heap.size + 1 := by simp
      have hBa : Below w.heap.size w (wr.alloc (.cells arr 9)) := hB.alloc (by omega) _
      go_wp2_with fail
      unfold arr at HSa HCa HAR hza hBa
      generalize wr.alloc (.cells #[.string { data := #[97] }, .string { data := #[38, 108, 116, 59] }, .string { data := #[38, 97, 109, 112, 59] }, .string { data := #[38, 35, 54, 53, 59] }, .string { data := #[38, 97, 112, 111, 115, 59] }, .string { data := #[38, 113, 117, 111, 116, 59] }, .string { data := #[38] }, .string { data := #[38, 35, 57, 59] }, .string { data := #[60] }, .string { data := #[38, 35, 49, 48, 48, 48, 59] }, .string { data := #[38, 103, 116] }] 9) = wa at *
      refine (next w.heap.size w.heap.size len cap pos 11 a wa HSa.out HCa.out (Nat.le_refl _) hl (by omega) (by omega) (by omega)).mono ?_
      rintro e w1 ⟨r1, hr1, rfl, hs1, hg1⟩
      have HS1 : Hid (Src (w1.alloc (.cells #[.int .i64 0, .int .i64 1, .int .i64 2, .int .i64 3, .int .i64 4, .int .i64 5, .int .i64 0, .int .i64 1, .int .i64 r1] 2)) w.heap.size a len cap (pos + 1)) := hs1.grown (World.grownBy_alloc w1 _ none) (by simp)
      have HC1 : Hid (CodeAt w.heap.size w1 a len) := HCa.out.grown hg1 (by omega) (fun k e => by cases e; exact Nat.le_refl _)
      have hz1 := hg1.size
      have hB1 : Below w.heap.size w w1 := hBa.trans (below_of hg1 (Nat.le_refl _) (by omega))
      have HC1a : Hid (CodeAt w.heap.size (w1.alloc (.cells #[.int .i64 0, .int .i64 1, .int .i64 2, .int .i64 3, .int .i64 4, .int .i64 5, .int .i64 0, .int .i64 1, .int .i64 r1] 2)) a len) := HC1.out.grown (World.grownBy_alloc w1 _ none) (by omega) (fun k e => by cases e)
      have HAR1 : Hid (∀ z, z < 11 → ∃ t : ByteArray, (t.size ≤ 12 ∧ Pc t) ∧ w1.cell? ⟨wr.heap.size, z, none⟩ = some (.string t)) := fun z hz => by
        obtain ⟨t, ht, hc⟩ := HAR.out z hz
        exact ⟨t, ht, (World.cell?_of_block (a := ⟨wr.heap.size, z, none⟩) (hg1.block wr.heap.size (by omega) (fun e => by have := Option.some.inj e; omega))).trans hc⟩
      clear hs1 hg1 HSa HCa HAR
      go_wp2_with fail
      have hAL : w1.grownBy (w1.alloc (.cells #[.int .i64 0, .int .i64 1, .int .i64 2, .int .i64 3, .int .i64 4, .int .i64 5, .int .i64 0, .int .i64 1, .int .i64 r1] 2)) none := World.grownBy_alloc w1 _ none
      refine (pick w.heap.size w.heap.size len cap (pos + 1) w1.heap.size 9 [0, 1, 2, 3, 4, 5, 0, 1, r1] a _ HS1.out HC1a.out (Nat.le_refl _) hl (by omega) rfl (by omega) (by omega) (by omega) (by simp) ?_).mono ?_
      · intro i z hz
        match i, hz with
        | 0, hz => cases hz; simp
        | 1, hz => cases hz; simp
        | 2, hz => cases hz; simp
        | 3, hz => cases hz; simp
        | 4, hz => cases hz; simp
        | 5, hz => cases hz; simp
        | 6, hz => cases hz; simp
        | 7, hz => cases hz; simp
        | 8, hz => cases hz; simp
      rintro e w2 ⟨z, hzm, rfl, hs2, hg2⟩
      have hz10 : z < 11 := by
        simp only [List.mem_cons, List.not_mem_nil, or_false] at hzm
        omega
      obtain ⟨tz, ⟨htz, hpc⟩, hcz⟩ := HAR1.out z hz10
      have HNZ2 : Hid (Un.noz (t ++ tz).data.toList = true) := Esc.hid (by
        rw [app_list]
        exact Un.noz_app _ _ HNZ.out hpc.1 hpc.2.1 hpc.2.2)
      clear hpc
      have hcz2 : w2.cell? ⟨wr.heap.size, z, none⟩ = some (.string tz) := (World.cell?_of_block (a := ⟨wr.heap.size, z, none⟩) (hg2.block wr.heap.size (by simp; omega) (fun e => by have := Option.some.inj e; omega))).trans ((World.cell?_of_block (a := ⟨wr.heap.size, z, none⟩) (hAL.block wr.heap.size (by omega) (by simp))).trans hcz)
      have HS2 : Hid (Src w2 w.heap.size a len cap (pos + 2)) := hs2
      have HC2 : Hid (CodeAt w.heap.size w2 a len) := HC1a.out.grown hg2 (by simp; omega) (fun k e => by cases e; exact Nat.le_refl _)
      have hB2 : Below w.heap.size w w2 := (hB1.grown hAL (by omega) (fun k e => by cases e)).trans (below_of hg2 (Nat.le_refl _) (by simp; omega))
      have hz2 : w.heap.size < w2.heap.size := HS2.out.lt
      clear hs2 hg2 hzm hcz HAR1
      have q1 : (z : Int) < 11 := by omega
      go_wp2
      refine ⟨⟨j - 1, pos + 2, t ++ tz, ?_, rfl, by omega, ?_, HNZ2, by omega, HS2, HC2, hB2, hz2⟩, ?_⟩
      · congr 1; omega
      · rw [size_app]; omega
      · simp [intOf]; omega
    · have q0 : ¬ (0 : Int) < (j : Int) := by omega
      go_wp2_with fail
      refine (chance w.heap.size w.heap.size len cap pos 30 a wr HS.out HCw.out (Nat.le_refl _) hl (by omega) (by omega) (by omega)).mono ?_
      rintro e w1 ⟨b, rfl, hs1, hg1⟩
      have hB1 : Below w.heap.size w w1 := hB.trans (below_of hg1 (Nat.le_refl _) (by omega))
      have hz1 : w.heap.size < w1.heap.size := hs1.lt
      clear hs1 hg1
      cases b
      · go_wp2
        go_ret
        exact ⟨t, by omega, HNZ.out, rfl, hB1⟩
      · go_wp2
        rw [mk401]
        simp only [Result.andThen]
        rw [Oper.upon_value]
        go_wp2
        rw [conv401]
        simp only [Result.andThen]
        rw [Oper.upon_value]
        go_wp2
        go_ret
        exact ⟨zt, Nat.le_of_eq zt_size, zt_noz, rfl, hB1.alloc (by omega) _⟩
end Drw
end Go.Proofs.YtbnpejijfnigaaaDoor
