/- Laid together: Esc2, Card4. -/
import Derived.Test.YtgghigfflpbjiaaGreatDoorJWriteProc29
import Derived.Test.YtgghigfflpbjiaaGreatDoorJWriteProc9
import Derived.WalkSpells
import Derived.Test.YtgghigfflpbjiaaGreatDoorJWriteProc10
/- What the specification's EscapeText and the program's EscapeText answer, at this program: the same code and the same text. Condition of the second: the table of entities lies as its initialiser lays it. -/
namespace Go.Proofs.YtgghigfflpbjiaaGreatDoor
open Go.Shelf Go.RowKit
set_option linter.unusedVariables false
namespace Esc
theorem hid {p : Prop} (h : p) : Hid p := h
def plainB (c : UInt8) : Bool := decide (32 ≤ c.toNat) && decide (c.toNat ≤ 126)
def plainAll (l : List UInt8) : Bool := l.all plainB
def vcode (l : List UInt8) : Int := if 40 < l.length then 2 else if plainAll l = false then 5 else 0
theorem len_size (s : ByteArray) : s.data.toList.length = s.size := by simp
theorem take_snoc (s : ByteArray) (k : Nat) (h : k < s.size) : s.data.toList.take (k + 1) = s.data.toList.take k ++ [s[k]] := by
  rw [List.take_succ_eq_append_getElem (by simpa using h)]; rfl
theorem plain_no (s : ByteArray) (k : Nat) (h : k < s.size) (hn : plainB s[k] = false) : plainAll s.data.toList = false := by
  unfold plainAll
  rw [List.all_eq_false]
  refine ⟨s[k], ?_, by simp [hn]⟩
  exact List.getElem_mem (l := s.data.toList) (by simpa using h)
theorem plain_snoc (s : ByteArray) (k : Nat) (h : k < s.size) (ha : plainAll (s.data.toList.take k) = true) (hy : plainB s[k] = true) : plainAll (s.data.toList.take (k + 1)) = true := by
  rw [take_snoc s k h]; unfold plainAll at *; rw [List.all_append, ha]; simp [hy]
theorem plain_end (s : ByteArray) (k : Nat) (h : ¬ k < s.size) (ha : plainAll (s.data.toList.take k) = true) : plainAll s.data.toList = true := by
  rw [List.take_of_length_le (by simp; omega)] at ha; exact ha
theorem escAll_snoc (s : ByteArray) (k : Nat) (h : k < s.size) : escAll (s.data.toList.take (k + 1)) = escAll (s.data.toList.take k) ++ esc s[k] := by
  rw [take_snoc s k h]; simp [escAll]
theorem escAll_take (s : ByteArray) (k : Nat) : (escAll (s.data.toList.take k)).length ≤ 6 * s.size := by
  have h1 := escAll_len (s.data.toList.take k)
  have h2 : (s.data.toList.take k).length ≤ s.size := by rw [List.length_take, len_size]; omega
  omega
theorem escAll_end (s : ByteArray) (k : Nat) (h : ¬ k < s.size) : escAll (s.data.toList.take k) = escAll s.data.toList := by
  rw [List.take_of_length_le (by simp; omega)]
theorem app_str (acc l : List UInt8) : Value.string (ByteArray.mk acc.toArray ++ ByteArray.mk l.toArray) = .string ⟨(acc ++ l).toArray⟩ := by
  apply congrArg Value.string; apply ByteArray.ext; simp
theorem ext_one (s : ByteArray) (k : Nat) (h : k < s.size) : s.extract k (k + 1) = ⟨[s[k]].toArray⟩ := by
  apply ByteArray.ext
  rw [ByteArray.data_extract]
  apply Array.toList_inj.1
  rw [Array.toList_extract, List.extract_eq_take_drop, Nat.add_sub_cancel_left, List.drop_eq_getElem_cons (by simpa using h)]
  simp; rfl
theorem v_many {s : ByteArray} (h : 40 < s.size) : vcode s.data.toList = 2 := by unfold vcode; rw [len_size, if_pos h]
theorem v_text {s : ByteArray} (h : ¬ 40 < s.size) (hp : plainAll s.data.toList = false) : vcode s.data.toList = 5 := by unfold vcode; rw [len_size, if_neg h, if_pos hp]
theorem v_ok {s : ByteArray} (h : ¬ 40 < s.size) (hp : plainAll s.data.toList = true) : vcode s.data.toList = 0 := by unfold vcode; rw [len_size, if_neg h, if_neg (by simp [hp])]
set_option maxRecDepth 100000 in
set_option maxHeartbeats 400000 in
theorem specPlain (c : UInt8) (w : World) : Calls Tryz.prog 94 #[.int .u8 c.toNat] w fun e w' => e = .returned (.bool (plainB c)) ∧ w' = w := by
  by_cases h1 : (32 : Int) ≤ (c.toNat : Int)
  · by_cases h2 : (c.toNat : Int) ≤ 126
    · have HB : Hid (plainB c = true) := hid (by simp [plainB]; omega)
      go_enter Tryz.func94, Tryz.ntmps94
      go_wp2
      go_ret
      exact ⟨by rw [HB.out]; rfl, rfl⟩
    · have HB : Hid (plainB c = false) := hid (by simp [plainB]; omega)
      go_enter Tryz.func94, Tryz.ntmps94
      go_wp2
      go_ret
      exact ⟨by rw [HB.out]; rfl, rfl⟩
  · have HB : Hid (plainB c = false) := hid (by simp [plainB]; omega)
    go_enter Tryz.func94, Tryz.ntmps94
    go_wp2
    go_ret
    exact ⟨by rw [HB.out]; rfl, rfl⟩
set_option maxRecDepth 100000 in
set_option maxHeartbeats 400000 in
theorem implPlain (c : UInt8) (w : World) : Calls Tryz.prog 124 #[.int .u8 c.toNat] w fun e w' => e = .returned (.bool (plainB c)) ∧ w' = w := by
  by_cases h1 : (32 : Int) ≤ (c.toNat : Int)
  · by_cases h2 : (c.toNat : Int) ≤ 126
    · have HB : Hid (plainB c = true) := hid (by simp [plainB]; omega)
      go_enter Tryz.func124, Tryz.ntmps124
      go_wp2
      go_ret
      exact ⟨by rw [HB.out]; rfl, rfl⟩
    · have HB : Hid (plainB c = false) := hid (by simp [plainB]; omega)
      go_enter Tryz.func124, Tryz.ntmps124
      go_wp2
      go_ret
      exact ⟨by rw [HB.out]; rfl, rfl⟩
  · have HB : Hid (plainB c = false) := hid (by simp [plainB]; omega)
    go_enter Tryz.func124, Tryz.ntmps124
    go_wp2
    go_ret
    exact ⟨by rw [HB.out]; rfl, rfl⟩

set_option maxRecDepth 100000 in
set_option maxHeartbeats 400000 in
theorem specValue (s : ByteArray) (w : World) (hs : s.size ≤ maxLen) :
    Calls Tryz.prog 72 #[.string s] w fun e w' => e = .returned (.int .i64 (vcode s.data.toList)) ∧ w' = w := by
  unfold maxLen at hs
  by_cases h40 : 40 < s.size
  · have HV : Hid (vcode s.data.toList = 2) := v_many h40
    go_enter Tryz.func72, Tryz.ntmps72
    go_wp2
    go_ret
    exact ⟨by rw [HV.out]; rfl, rfl⟩
  · go_enter Tryz.func72, Tryz.ntmps72
    go_wp2
    go_loop [3] (fun i => ∃ k : Nat, k ≤ s.size ∧ i = .int .i64 k ∧ plainAll (s.data.toList.take k) = true) (fun i => s.size - (intOf i).toNat)
    case atStart => exact ⟨0, Nat.zero_le _, rfl, rfl⟩
    case round =>
      obtain ⟨k, hk, rfl, ha⟩ := hrel
      have HA : Hid (plainAll (s.data.toList.take k) = true) := ha
      clear ha
      by_cases hlt : k < s.size
      · cases hp : plainB s[k]
        · have HV : Hid (vcode s.data.toList = 5) := v_text h40 (plain_no s k hlt hp)
          have HP : Hid (plainB s[k] = false) := hp
          clear hp
          go_wp2_with (go_at_call 94; refine (specPlain s[k] _).mono ?_; rintro e w' ⟨rfl, rfl⟩; rw [HP.out])
          go_ret
          exact ⟨by rw [HV.out]; rfl, rfl⟩
        · have HS : Hid (plainAll (s.data.toList.take (k + 1)) = true) := plain_snoc s k hlt HA.out hp
          have HP : Hid (plainB s[k] = true) := hp
          clear hp
          go_wp2_with (go_at_call 94; refine (specPlain s[k] _).mono ?_; rintro e w' ⟨rfl, rfl⟩; rw [HP.out])
          exact ⟨⟨k + 1, by omega, by go_num, HS.out⟩, by simp [intOf]; omega⟩
      · have HV : Hid (vcode s.data.toList = 0) := v_ok h40 (plain_end s k hlt HA.out)
        go_wp2
        go_ret
        exact ⟨by rw [HV.out]; rfl, rfl⟩

set_option maxRecDepth 100000 in
set_option maxHeartbeats 1000000 in
theorem specEscape (s : ByteArray) (w : World) (hs : s.size ≤ 40) :
    Calls Tryz.prog 86 #[.string s] w fun e w' => e = .returned (.string ⟨(escAll s.data.toList).toArray⟩) ∧ w' = w := by
  go_enter Tryz.func86, Tryz.ntmps86
  go_wp2
  go_loop [3, 4] (fun o i => ∃ k : Nat, k ≤ s.size ∧ i = .int .i64 k ∧ o = .string ⟨(escAll (s.data.toList.take k)).toArray⟩) (fun _ i => s.size - (intOf i).toNat)
  case atStart => exact ⟨0, Nat.zero_le _, rfl, rfl⟩
  case round =>
    obtain ⟨k, hk, rfl, rfl⟩ := hrel
    have hl := escAll_take s k
    by_cases hlt : k < s.size
    · have HE : Hid (escAll (s.data.toList.take (k + 1)) = escAll (s.data.toList.take k) ++ esc s[k]) := escAll_snoc s k hlt
      generalize hacc : escAll (s.data.toList.take k) = acc at *
      clear hacc
      by_cases h60 : s[k].toNat = 60
      · have HF : Hid (esc s[k] = [38, 108, 116, 59]) := hid (by simp [esc, h60])
        have b60 : ((s[k].toNat : Int) == 60) = true := beq_iff_eq.2 (by omega)
        clear h60
        go_wp2
        exact ⟨⟨k + 1, by omega, by go_num, by rw [HE.out, HF.out]; exact app_str _ _⟩, by simp [intOf]; omega⟩
      by_cases h62 : s[k].toNat = 62
      · have HF : Hid (esc s[k] = [38, 103, 116, 59]) := hid (by simp [esc, h62])
        have b60 : ((s[k].toNat : Int) == 60) = false := beq_eq_false_iff_ne.2 (by omega)
        have b62 : ((s[k].toNat : Int) == 62) = true := beq_iff_eq.2 (by omega)
        clear h60 h62
        go_wp2
        exact ⟨⟨k + 1, by omega, by go_num, by rw [HE.out, HF.out]; exact app_str _ _⟩, by simp [intOf]; omega⟩
      by_cases h38 : s[k].toNat = 38
      · have HF : Hid (esc s[k] = [38, 97, 109, 112, 59]) := hid (by simp [esc, h38])
        have b60 : ((s[k].toNat : Int) == 60) = false := beq_eq_false_iff_ne.2 (by omega)
        have b62 : ((s[k].toNat : Int) == 62) = false := beq_eq_false_iff_ne.2 (by omega)
        have b38 : ((s[k].toNat : Int) == 38) = true := beq_iff_eq.2 (by omega)
        clear h60 h62 h38
        go_wp2
        exact ⟨⟨k + 1, by omega, by go_num, by rw [HE.out, HF.out]; exact app_str _ _⟩, by simp [intOf]; omega⟩
      by_cases h34 : s[k].toNat = 34
      · have HF : Hid (esc s[k] = [38, 113, 117, 111, 116, 59]) := hid (by simp [esc, h34])
        have b60 : ((s[k].toNat : Int) == 60) = false := beq_eq_false_iff_ne.2 (by omega)
        have b62 : ((s[k].toNat : Int) == 62) = false := beq_eq_false_iff_ne.2 (by omega)
        have b38 : ((s[k].toNat : Int) == 38) = false := beq_eq_false_iff_ne.2 (by omega)
        have b34 : ((s[k].toNat : Int) == 34) = true := beq_iff_eq.2 (by omega)
        clear h60 h62 h38 h34
        go_wp2
        exact ⟨⟨k + 1, by omega, by go_num, by rw [HE.out, HF.out]; exact app_str _ _⟩, by simp [intOf]; omega⟩
      have HF : Hid (esc s[k] = [s[k]]) := hid (by simp [esc, h60, h62, h38, h34])
      have hk1 : (k : Int) + 1 ≤ (s.size : Int) := by omega
      have hk0 : (0 : Int) ≤ (k : Int) := by omega
      have b60 : ((s[k].toNat : Int) == 60) = false := beq_eq_false_iff_ne.2 (by omega)
      have b62 : ((s[k].toNat : Int) == 62) = false := beq_eq_false_iff_ne.2 (by omega)
      have b38 : ((s[k].toNat : Int) == 38) = false := beq_eq_false_iff_ne.2 (by omega)
      have b34 : ((s[k].toNat : Int) == 34) = false := beq_eq_false_iff_ne.2 (by omega)
      clear h60 h62 h38 h34
      go_wp2
      exact ⟨⟨k + 1, by omega, by go_num, by rw [HE.out, HF.out, ext_one s k hlt]; exact app_str _ _⟩, by simp [intOf]; omega⟩
    · have HE : Hid (escAll (s.data.toList.take k) = escAll s.data.toList) := escAll_end s k hlt
      go_wp2
      go_ret
      exact ⟨by rw [← HE.out]; rfl, rfl⟩

def escRes (l : List UInt8) : List UInt8 := if vcode l = 0 then escAll l else []
def escVal (l : List UInt8) : Value := .agg #[.int .i64 (vcode l), .string ⟨(escRes l).toArray⟩]
theorem escVal_bad {l : List UInt8} {c : Int} (h : vcode l = c) (h0 : c ≠ 0) : escVal l = .agg #[.int .i64 c, .string { data := #[] }] := by
  unfold escVal escRes; rw [h, if_neg h0]
theorem escVal_ok {l : List UInt8} (h : vcode l = 0) : escVal l = .agg #[.int .i64 0, .string ⟨(escAll l).toArray⟩] := by
  unfold escVal escRes; rw [h, if_pos rfl]
theorem v_le {s : ByteArray} (h : vcode s.data.toList = 0) : s.size ≤ 40 := by
  rcases Nat.lt_or_ge 40 s.size with h1 | h1
  · rw [v_many h1] at h; simp at h
  · exact h1
theorem returned_agg {a b : Value} (h : a = b) : Ending.returned a = .returned b := by rw [h]
theorem Ent.below {w w' : World} {B : Nat} (he : Ent w) (h : Below B w w') (hB : 2 < B) : Ent w' := fun i hi => (h.cell (p := ⟨2, i, none⟩) hB).trans (he i hi)
theorem bcell {B : Nat} {W w1 : World} (hb : Below B W w1) : (∀ b o, b < B → w1.cell? ⟨b, o, none⟩ = W.cell? ⟨b, o, none⟩) ∧ (∀ b o, b < B → w1.frozen? ⟨b, o, none⟩ = W.frozen? ⟨b, o, none⟩) :=
  ⟨fun b o h => hb.cell (p := ⟨b, o, none⟩) h, fun b o h => hb.frozen (p := ⟨b, o, none⟩) h⟩
theorem fresh (w : World) (o : Obj) : Lib.IsBuilderF 99 5 (w.heap.size + 1) (w.heap.size + 1) (Lib.byteCells []) ((w.alloc o).alloc (.cells #[.pointer none, .slice none 0 0] 99)) := by
  have h := Lib.IsBuilderF.of (Lib.fresh_isBuilder 99 5 (w.alloc o))
  rw [show (w.alloc o).heap.size = w.heap.size + 1 from by simp] at h
  exact h
theorem blt {T e : TypeId} {B b : Nat} {bs : List Value} {w : World} (h : Lib.IsBuilderF T e B b bs w) : b < w.heap.size := h.elim (fun x => x.lt) (fun x => x.lt)
set_option maxRecDepth 100000 in
set_option maxHeartbeats 2000000 in
theorem implEsc (s : ByteArray) (w : World) (hs : s.size ≤ maxLen) (he : Ent w) (hw : 2 < w.heap.size) :
    Calls Tryz.prog 108 #[.string s] w fun e w' => e = .returned (escVal s.data.toList) ∧ Below w.heap.size w w' := by
  unfold maxLen at hs
  by_cases h40 : 40 < s.size
  · have HW : Hid (escVal s.data.toList = .agg #[.int .i64 2, .string { data := #[] }]) := escVal_bad (v_many h40) (by decide)
    go_enter Tryz.func108, Tryz.ntmps108
    go_wp2
    exact bodyPost_ret (v := .agg #[.int .i64 2, .string { data := #[] }]) (by simp [results, Tryz.results108, go_sem]) rfl ⟨returned_agg HW.out.symm, (Below.refl _ _).alloc (Nat.le_refl _) _⟩
  · have HE : Hid (Ent w) := he
    clear he
    go_enter Tryz.func108, Tryz.ntmps108
    go_wp2_with fail
    go_loopw [11] (fun i wr => ∃ k : Nat, k ≤ s.size ∧ i = .int .i64 k ∧ plainAll (s.data.toList.take k) = true ∧ Lib.IsBuilderF 99 5 (w.heap.size + 1) (w.heap.size + 1) (Lib.byteCells (escAll (s.data.toList.take k))) wr ∧ Below (w.heap.size + 1) (w.alloc (.cells #[.int .i64 0, .string { data := #[] }] 36)) wr) (fun i _ => s.size - (intOf i).toNat)
    case atStart => exact ⟨0, Nat.zero_le _, rfl, rfl, fresh w _, (Below.refl _ _).alloc (by simp) _⟩
    case round =>
      obtain ⟨k, hk, rfl, ha, hI, hbl⟩ := hrel
      have HA : Hid (plainAll (s.data.toList.take k) = true) := ha
      clear ha
      have hl := escAll_take s k
      have hz := blt hI
      have HR : Hid (Ent wr) := hid (Ent.below (Ent.below HE.out ((Below.refl _ w).alloc (Nat.le_refl _) (.cells #[.int .i64 0, .string { data := #[] }] 36)) hw) hbl (by omega))
      by_cases hlt : k < s.size
      · cases hp : plainB s[k]
        · have HV : Hid (escVal s.data.toList = .agg #[.int .i64 5, .string { data := #[] }]) := escVal_bad (v_text h40 (plain_no s k hlt hp)) (by decide)
          have HP : Hid (plainB s[k] = false) := hp
          obtain ⟨hc, hf⟩ := bcell hbl
          clear hp
          go_wp2_with (go_at_call 124; refine (implPlain s[k] _).mono ?_; rintro e w' ⟨rfl, rfl⟩; rw [HP.out])
          refine bodyPost_ret (v := .agg #[.int .i64 5, .string { data := #[] }]) (by simp [results, Tryz.results108, go_sem, hc]) rfl ⟨returned_agg HV.out.symm, ?_⟩
          exact ((((Below.refl _ w).alloc (Nat.le_refl _) _).trans (hbl.mono (by omega))).setCell (by simp) _).setCell (by simp) _
        · have HS : Hid (plainAll (s.data.toList.take (k + 1)) = true) := plain_snoc s k hlt HA.out hp
          have HX : Hid (escAll (s.data.toList.take (k + 1)) = escAll (s.data.toList.take k) ++ esc s[k]) := escAll_snoc s k hlt
          have HP : Hid (plainB s[k] = true) := hp
          clear hp
          go_wp2_with fail
          refine (implPlain s[k] _).mono ?_
          rintro e w' ⟨rfl, rfl⟩
          rw [HP.out]
          go_wp2_with fail
          refine (writeEsc (w.heap.size + 1) (w.heap.size + 1) (escAll (s.data.toList.take k)) s[k] _ HR.out hI (by omega) (by omega)).mono ?_
          rintro e w2 ⟨rfl, hI2, hb2⟩
          go_wp2
          exact ⟨⟨k + 1, by omega, by go_num, HS.out, by rw [HX.out]; exact hI2, hbl.trans hb2⟩, by simp [intOf]; omega⟩
      · have HV : Hid (escVal s.data.toList = .agg #[.int .i64 0, .string ⟨(escAll s.data.toList).toArray⟩]) := escVal_ok (v_ok h40 (plain_end s k hlt HA.out))
        have HX : Hid (escAll (s.data.toList.take k) = escAll s.data.toList) := escAll_end s k hlt
        go_wp2_with fail
        refine (Tryz.Builder_String_any_k (w.heap.size + 1) (w.heap.size + 1) (escAll (s.data.toList.take k)) _ hI (by omega)).mono ?_
        rintro e w2 ⟨rfl, hI2, hb2, hk2⟩
        rw [HX.out]
        obtain ⟨hc, hf⟩ := bcell (hbl.trans hb2)
        have hz2 := blt hI2
        generalize escAll s.data.toList = x at *
        go_wp2
        refine bodyPost_ret (v := .agg #[.int .i64 0, .string ⟨x.toArray⟩]) (by simp [results, Tryz.results108, go_sem, hc]) rfl ⟨returned_agg HV.out.symm, ?_⟩
        exact ((((Below.refl _ w).alloc (Nat.le_refl _) _).trans ((hbl.trans hb2).mono (by omega))).setCell (by simp) _).setCell (by simp) _
end Esc
end Go.Proofs.YtgghigfflpbjiaaGreatDoor
/- From a row's list of laid tables to the tables of rules, of powers of ten and of entities; a world that holds the tables. -/
namespace Go.Proofs.YtgghigfflpbjiaaGreatDoor
open Go.ChangeShapes Go.WideShapes Go.ChangeAt Go.RowKit
set_option linter.unusedVariables false
namespace Crd4
open Esc (Ent entVals entArr)
theorem ent_lt {w : World} (h : Ent w) : 2 < w.heap.size := by
  have h0 := h 0 (by decide)
  rcases Nat.lt_or_ge 2 w.heap.size with h1 | h1
  · exact h1
  · simp [World.cell?, Array.getElem?_eq_none h1, entVals] at h0
theorem gTab : Tryz.prog.globalNamed "loop.example/g00343/impl.entities" = some 2 := by kernel_rfl
theorem gTabType : (Tryz.prog.globals[2]?).map (·.type) = some 206 := by kernel_rfl
theorem cellsTA : Tryz.prog.cellsOf 206 = 15 := by kernel_rfl
theorem cellsTE : Tryz.prog.cellsOf 205 = 3 := by kernel_rfl
theorem cells9 : Tryz.prog.cellsOf 9 = 1 := by kernel_rfl
theorem cells5 : Tryz.prog.cellsOf 5 = 1 := by kernel_rfl
theorem cells4 : Tryz.prog.cellsOf 4 = 1 := by kernel_rfl
set_option maxRecDepth 100000 in
/-- One row of the table: its three cells. -/
theorem entity {H : Type} {enc : TypeId × Value → H} {w : World} {base : Nat} {sp : Nat → Bool} {held : Bool} {fuel : Nat} {cs : List Value} {l : List UInt8} {z : Int} {b : Bool} {p : List MemPlace}
    (h : DataW.trod enc Tryz.prog w base sp held fuel 205 cs = some (.agg [.lit (.string l), .lit (.int .u8 z), .lit (.bool b)], p)) :
    cs = [.string ⟨l.toArray⟩, .int .u8 z, .bool b] := by
  obtain ⟨xs, n, rfl, hx, hlen, hxl, hf⟩ := DataW.trod_struct Tryz.underlying205 h
  have h0 := hf 0 _ rfl
  have h1 := hf 1 _ rfl
  have h2 := hf 2 _ rfl
  rw [cellsTE] at hlen
  match cs, hlen with
  | [a, b', c], _ =>
    match xs, hxl with
    | [x0, x1, x2], _ =>
      simp at h0 h1 h2 hx
      obtain ⟨s0, e0, f0, _⟩ := DataW.trod_string Tryz.underlying9 h0
      obtain ⟨n1, e1, f1, _⟩ := DataW.trod_int Tryz.underlying5 h1
      obtain ⟨b2, e2, f2⟩ := DataW.trod_bool Tryz.underlying4 h2
      subst f0 f1 f2
      rw [cells9] at e0
      rw [cells5] at e1
      rw [cells4] at e2
      simp at e0 e1 e2 hx
      obtain ⟨⟨g0, g1, g2⟩, _⟩ := hx
      subst e0 e1 e2 g1 g2
      rw [g0]
set_option maxRecDepth 100000 in
theorem var_ent {W : World} (h : laidMetH Tryz.prog [("loop.example/g00343/impl.entities", Rows.laid_loop_example_g00343_impl_entities)] W) : ∃ cs, W.var? Tryz.prog "loop.example/g00343/impl.entities" = some cs ∧ cs.toList = entVals := by
  obtain ⟨ps, ⟨g', t', cs, fuel, p, q, hg', ht', hvar, hd, _, _⟩, _⟩ := h
  obtain rfl := Option.some.inj (gTab.symm.trans hg')
  obtain rfl := Option.some.inj (gTabType.symm.trans ht')
  refine ⟨cs, hvar, ?_⟩
  obtain ⟨xs, m, rfl, hx, hlen, hxl, hf⟩ := DataW.trod_array Tryz.underlying206 hd
  have f0 := hf 0 (by decide)
  have f1 := hf 1 (by decide)
  have f2 := hf 2 (by decide)
  have f3 := hf 3 (by decide)
  have f4 := hf 4 (by decide)
  rw [cellsTE] at f0 f1 f2 f3 f4
  rw [cellsTA] at hlen
  match xs, hxl with
  | [x0, x1, x2, x3, x4], _ =>
    obtain ⟨d0, p0⟩ := x0
    obtain ⟨d1, p1⟩ := x1
    obtain ⟨d2, p2⟩ := x2
    obtain ⟨d3, p3⟩ := x3
    obtain ⟨d4, p4⟩ := x4
    simp only [Rows.laid_loop_example_g00343_impl_entities, List.map_cons, List.map_nil, Prod.mk.injEq, DataW.agg.injEq, List.cons.injEq, and_true] at hx
    obtain ⟨⟨rfl, rfl, rfl, rfl, rfl⟩, _⟩ := hx
    generalize cs.toList = l at *
    have g0 := entity f0
    have g1 := entity f1
    have g2 := entity f2
    have g3 := entity f3
    have g4 := entity f4
    have hl : l = (l.drop 0).take 3 ++ ((l.drop 3).take 3 ++ ((l.drop 6).take 3 ++ ((l.drop 9).take 3 ++ (l.drop 12).take 3))) := by
      match l, hlen with
      | [a0, a1, a2, a3, a4, a5, a6, a7, a8, a9, a10, a11, a12, a13, a14], _ => rfl
    rw [hl]
    simp only [Nat.reduceMul] at g0 g1 g2 g3 g4
    rw [g0, g1, g2, g3, g4]
    rfl
set_option maxRecDepth 100000 in
theorem ent_of {W : World} (h : laidMetH Tryz.prog [("loop.example/g00343/impl.entities", Rows.laid_loop_example_g00343_impl_entities)] W) : Ent W := by
  obtain ⟨cs, hv, hcs⟩ := var_ent h
  intro i hi
  rw [World.var?_cell gTab hv i, ← hcs]
  simp
def isEnt (x : String × DataW Unit) : Bool := x.1 == "loop.example/g00343/impl.entities"
theorem ent_in {W : World} {l : List (String × DataW Unit)} (h : laidMetH Tryz.prog l W) (hl : l.filter isEnt = [("loop.example/g00343/impl.entities", Rows.laid_loop_example_g00343_impl_entities)]) : Ent W := by
  have h1 := h.filter isEnt
  rw [hl] at h1
  exact ent_of h1
def laidOver (w : World) : World := { w with heap := (Crd.laidHeap w.heap).modify 2 (Crd.put entVals) }
end Crd4
end Go.Proofs.YtgghigfflpbjiaaGreatDoor
