/- Laid together: Esc2, TxA, PrA. -/
import Derived.Test.YtahkpgffoiaeiaaGreatDoorJProcOf10
import Derived.WalkSpells
import Derived.Test.YtahkpgffoiaeiaaGreatDoorJProcOf7
import Derived.Lib.AppendIntMem
import Derived.Deep.RegionHeld3
import Derived.Test.YtahkpgffoiaeiaaGreatDoorJProcOf4
/- What the specification's EscapeText and the program's EscapeText answer, at this program: the same code and the same text. Condition of the second: the table of entities lies as its initialiser lays it. -/
namespace Go.Proofs.YtahkpgffoiaeiaaGreatDoor
open Go.Shelf Go.RowKit
set_option linter.unusedVariables false
namespace Esc
theorem hid {p : Prop} (h : p) : Hid p := h
def plainB (c : UInt8) : Bool := decide (32 ≤ c.toNat) && decide (c.toNat ≤ 126)
def plainAll (l : List UInt8) : Bool := l.all plainB
def vcode (l : List UInt8) : Int := if 40 < l.length then 2 else if plainAll l = false then 5 else 0
theorem len_size (s : ByteArray) : s.data.toList.length = s.size := by simp
theorem take_snoc (s : ByteArray) (k : Nat) (h : k < s.size) : s.data.toList.take (k + 1) = s.data.toList.take k ++ [s[k]] := by
  rw [List.take_succ_eq_append_getElem (by simpa using h)]; rfl
theorem plain_no (s : ByteArray) (k : Nat) (h : k < s.size) (hn : plainB s[k] = false) : plainAll s.data.toList = false := by
  unfold plainAll
  rw [List.all_eq_false]
  refine ⟨s[k], ?_, by simp [hn]⟩
  exact List.getElem_mem (l := s.data.toList) (by simpa using h)
theorem plain_snoc (s : ByteArray) (k : Nat) (h : k < s.size) (ha : plainAll (s.data.toList.take k) = true) (hy : plainB s[k] = true) : plainAll (s.data.toList.take (k + 1)) = true := by
  rw [take_snoc s k h]; unfold plainAll at *; rw [List.all_append, ha]; simp [hy]
theorem plain_end (s : ByteArray) (k : Nat) (h : ¬ k < s.size) (ha : plainAll (s.data.toList.take k) = true) : plainAll s.data.toList = true := by
  rw [List.take_of_length_le (by simp; omega)] at ha; exact ha
theorem escAll_snoc (s : ByteArray) (k : Nat) (h : k < s.size) : escAll (s.data.toList.take (k + 1)) = escAll (s.data.toList.take k) ++ esc s[k] := by
  rw [take_snoc s k h]; simp [escAll]
theorem escAll_take (s : ByteArray) (k : Nat) : (escAll (s.data.toList.take k)).length ≤ 6 * s.size := by
  have h1 := escAll_len (s.data.toList.take k)
  have h2 : (s.data.toList.take k).length ≤ s.size := by rw [List.length_take, len_size]; omega
  omega
theorem escAll_end (s : ByteArray) (k : Nat) (h : ¬ k < s.size) : escAll (s.data.toList.take k) = escAll s.data.toList := by
  rw [List.take_of_length_le (by simp; omega)]
theorem app_str (acc l : List UInt8) : Value.string (ByteArray.mk acc.toArray ++ ByteArray.mk l.toArray) = .string ⟨(acc ++ l).toArray⟩ := by
  apply congrArg Value.string; apply ByteArray.ext; simp
theorem ext_one (s : ByteArray) (k : Nat) (h : k < s.size) : s.extract k (k + 1) = ⟨[s[k]].toArray⟩ := by
  apply ByteArray.ext
  rw [ByteArray.data_extract]
  apply Array.toList_inj.1
  rw [Array.toList_extract, List.extract_eq_take_drop, Nat.add_sub_cancel_left, List.drop_eq_getElem_cons (by simpa using h)]
  simp; rfl
theorem v_many {s : ByteArray} (h : 40 < s.size) : vcode s.data.toList = 2 := by unfold vcode; rw [len_size, if_pos h]
theorem v_text {s : ByteArray} (h : ¬ 40 < s.size) (hp : plainAll s.data.toList = false) : vcode s.data.toList = 5 := by unfold vcode; rw [len_size, if_neg h, if_pos hp]
theorem v_ok {s : ByteArray} (h : ¬ 40 < s.size) (hp : plainAll s.data.toList = true) : vcode s.data.toList = 0 := by unfold vcode; rw [len_size, if_neg h, if_neg (by simp [hp])]
set_option maxRecDepth 100000 in
set_option maxHeartbeats 400000 in
theorem specPlain (c : UInt8) (w : World) : Calls Tryz.prog 76 #[.int .u8 c.toNat] w fun e w' => e = .returned (.bool (plainB c)) ∧ w' = w := by
  by_cases h1 : (32 : Int) ≤ (c.toNat : Int)
  · by_cases h2 : (c.toNat : Int) ≤ 126
    · have HB : Hid (plainB c = true) := hid (by simp [plainB]; omega)
      go_enter Tryz.func76, Tryz.ntmps76
      go_wp2
      go_ret
      exact ⟨by rw [HB.out]; rfl, rfl⟩
    · have HB : Hid (plainB c = false) := hid (by simp [plainB]; omega)
      go_enter Tryz.func76, Tryz.ntmps76
      go_wp2
      go_ret
      exact ⟨by rw [HB.out]; rfl, rfl⟩
  · have HB : Hid (plainB c = false) := hid (by simp [plainB]; omega)
    go_enter Tryz.func76, Tryz.ntmps76
    go_wp2
    go_ret
    exact ⟨by rw [HB.out]; rfl, rfl⟩
set_option maxRecDepth 100000 in
set_option maxHeartbeats 400000 in
theorem implPlain (c : UInt8) (w : World) : Calls Tryz.prog 114 #[.int .u8 c.toNat] w fun e w' => e = .returned (.bool (plainB c)) ∧ w' = w := by
  by_cases h1 : (32 : Int) ≤ (c.toNat : Int)
  · by_cases h2 : (c.toNat : Int) ≤ 126
    · have HB : Hid (plainB c = true) := hid (by simp [plainB]; omega)
      go_enter Tryz.func114, Tryz.ntmps114
      go_wp2
      go_ret
      exact ⟨by rw [HB.out]; rfl, rfl⟩
    · have HB : Hid (plainB c = false) := hid (by simp [plainB]; omega)
      go_enter Tryz.func114, Tryz.ntmps114
      go_wp2
      go_ret
      exact ⟨by rw [HB.out]; rfl, rfl⟩
  · have HB : Hid (plainB c = false) := hid (by simp [plainB]; omega)
    go_enter Tryz.func114, Tryz.ntmps114
    go_wp2
    go_ret
    exact ⟨by rw [HB.out]; rfl, rfl⟩

set_option maxRecDepth 100000 in
set_option maxHeartbeats 400000 in
theorem specValue (s : ByteArray) (w : World) (hs : s.size ≤ maxLen) :
    Calls Tryz.prog 52 #[.string s] w fun e w' => e = .returned (.int .i64 (vcode s.data.toList)) ∧ w' = w := by
  unfold maxLen at hs
  by_cases h40 : 40 < s.size
  · have HV : Hid (vcode s.data.toList = 2) := v_many h40
    go_enter Tryz.func52, Tryz.ntmps52
    go_wp2
    go_ret
    exact ⟨by rw [HV.out]; rfl, rfl⟩
  · go_enter Tryz.func52, Tryz.ntmps52
    go_wp2
    go_loop [3] (fun i => ∃ k : Nat, k ≤ s.size ∧ i = .int .i64 k ∧ plainAll (s.data.toList.take k) = true) (fun i => s.size - (intOf i).toNat)
    case atStart => exact ⟨0, Nat.zero_le _, rfl, rfl⟩
    case round =>
      obtain ⟨k, hk, rfl, ha⟩ := hrel
      have HA : Hid (plainAll (s.data.toList.take k) = true) := ha
      clear ha
      by_cases hlt : k < s.size
      · cases hp : plainB s[k]
        · have HV : Hid (vcode s.data.toList = 5) := v_text h40 (plain_no s k hlt hp)
          have HP : Hid (plainB s[k] = false) := hp
          clear hp
          go_wp2_with (go_at_call 76; refine (specPlain s[k] _).mono ?_; rintro e w' ⟨rfl, rfl⟩; rw [HP.out])
          go_ret
          exact ⟨by rw [HV.out]; rfl, rfl⟩
        · have HS : Hid (plainAll (s.data.toList.take (k + 1)) = true) := plain_snoc s k hlt HA.out hp
          have HP : Hid (plainB s[k] = true) := hp
          clear hp
          go_wp2_with (go_at_call 76; refine (specPlain s[k] _).mono ?_; rintro e w' ⟨rfl, rfl⟩; rw [HP.out])
          exact ⟨⟨k + 1, by omega, by go_num, HS.out⟩, by simp [intOf]; omega⟩
      · have HV : Hid (vcode s.data.toList = 0) := v_ok h40 (plain_end s k hlt HA.out)
        go_wp2
        go_ret
        exact ⟨by rw [HV.out]; rfl, rfl⟩

def escRes (l : List UInt8) : List UInt8 := if vcode l = 0 then escAll l else []
def escVal (l : List UInt8) : Value := .agg #[.int .i64 (vcode l), .string ⟨(escRes l).toArray⟩]
theorem escVal_bad {l : List UInt8} {c : Int} (h : vcode l = c) (h0 : c ≠ 0) : escVal l = .agg #[.int .i64 c, .string { data := #[] }] := by
  unfold escVal escRes; rw [h, if_neg h0]
theorem escVal_ok {l : List UInt8} (h : vcode l = 0) : escVal l = .agg #[.int .i64 0, .string ⟨(escAll l).toArray⟩] := by
  unfold escVal escRes; rw [h, if_pos rfl]
theorem v_le {s : ByteArray} (h : vcode s.data.toList = 0) : s.size ≤ 40 := by
  rcases Nat.lt_or_ge 40 s.size with h1 | h1
  · rw [v_many h1] at h; simp at h
  · exact h1
theorem returned_agg {a b : Value} (h : a = b) : Ending.returned a = .returned b := by rw [h]
theorem Ent.below {w w' : World} {B : Nat} (he : Ent w) (h : Below B w w') (hB : 2 < B) : Ent w' := fun i hi => (h.cell (p := ⟨2, i, none⟩) hB).trans (he i hi)
theorem bcell {B : Nat} {W w1 : World} (hb : Below B W w1) : (∀ b o, b < B → w1.cell? ⟨b, o, none⟩ = W.cell? ⟨b, o, none⟩) ∧ (∀ b o, b < B → w1.frozen? ⟨b, o, none⟩ = W.frozen? ⟨b, o, none⟩) :=
  ⟨fun b o h => hb.cell (p := ⟨b, o, none⟩) h, fun b o h => hb.frozen (p := ⟨b, o, none⟩) h⟩
theorem fresh (w : World) (o : Obj) : Lib.IsBuilderF 200 5 (w.heap.size + 1) (w.heap.size + 1) (Lib.byteCells []) ((w.alloc o).alloc (.cells #[.pointer none, .slice none 0 0] 200)) := by
  have h := Lib.IsBuilderF.of (Lib.fresh_isBuilder 200 5 (w.alloc o))
  rw [show (w.alloc o).heap.size = w.heap.size + 1 from by simp] at h
  exact h
theorem blt {T e : TypeId} {B b : Nat} {bs : List Value} {w : World} (h : Lib.IsBuilderF T e B b bs w) : b < w.heap.size := h.elim (fun x => x.lt) (fun x => x.lt)
set_option maxRecDepth 100000 in
set_option maxHeartbeats 2000000 in
theorem implEsc (s : ByteArray) (w : World) (hs : s.size ≤ maxLen) (he : Ent w) (hw : 2 < w.heap.size) :
    Calls Tryz.prog 101 #[.string s] w fun e w' => e = .returned (escVal s.data.toList) ∧ Below w.heap.size w w' := by
  unfold maxLen at hs
  by_cases h40 : 40 < s.size
  · have HW : Hid (escVal s.data.toList = .agg #[.int .i64 2, .string { data := #[] }]) := escVal_bad (v_many h40) (by decide)
    go_enter Tryz.func101, Tryz.ntmps101
    go_wp2
    exact bodyPost_ret (v := .agg #[.int .i64 2, .string { data := #[] }]) (by simp [results, Tryz.results101, go_sem]) rfl ⟨returned_agg HW.out.symm, (Below.refl _ _).alloc (Nat.le_refl _) _⟩
  · have HE : Hid (Ent w) := he
    clear he
    go_enter Tryz.func101, Tryz.ntmps101
    go_wp2_with fail
    go_loopw [11] (fun i wr => ∃ k : Nat, k ≤ s.size ∧ i = .int .i64 k ∧ plainAll (s.data.toList.take k) = true ∧ Lib.IsBuilderF 200 5 (w.heap.size + 1) (w.heap.size + 1) (Lib.byteCells (escAll (s.data.toList.take k))) wr ∧ Below (w.heap.size + 1) (w.alloc (.cells #[.int .i64 0, .string { data := #[] }] 182)) wr) (fun i _ => s.size - (intOf i).toNat)
    case atStart => exact ⟨0, Nat.zero_le _, rfl, rfl, fresh w _, (Below.refl _ _).alloc (by simp) _⟩
    case round =>
      obtain ⟨k, hk, rfl, ha, hI, hbl⟩ := hrel
      have HA : Hid (plainAll (s.data.toList.take k) = true) := ha
      clear ha
      have hl := escAll_take s k
      have hz := blt hI
      have HR : Hid (Ent wr) := hid (Ent.below (Ent.below HE.out ((Below.refl _ w).alloc (Nat.le_refl _) (.cells #[.int .i64 0, .string { data := #[] }] 182)) hw) hbl (by omega))
      by_cases hlt : k < s.size
      · cases hp : plainB s[k]
        · have HV : Hid (escVal s.data.toList = .agg #[.int .i64 5, .string { data := #[] }]) := escVal_bad (v_text h40 (plain_no s k hlt hp)) (by decide)
          have HP : Hid (plainB s[k] = false) := hp
          obtain ⟨hc, hf⟩ := bcell hbl
          clear hp
          go_wp2_with (go_at_call 114; refine (implPlain s[k] _).mono ?_; rintro e w' ⟨rfl, rfl⟩; rw [HP.out])
          refine bodyPost_ret (v := .agg #[.int .i64 5, .string { data := #[] }]) (by simp [results, Tryz.results101, go_sem, hc]) rfl ⟨returned_agg HV.out.symm, ?_⟩
          exact ((((Below.refl _ w).alloc (Nat.le_refl _) _).trans (hbl.mono (by omega))).setCell (by simp) _).setCell (by simp) _
        · have HS : Hid (plainAll (s.data.toList.take (k + 1)) = true) := plain_snoc s k hlt HA.out hp
          have HX : Hid (escAll (s.data.toList.take (k + 1)) = escAll (s.data.toList.take k) ++ esc s[k]) := escAll_snoc s k hlt
          have HP : Hid (plainB s[k] = true) := hp
          clear hp
          go_wp2_with fail
          refine (implPlain s[k] _).mono ?_
          rintro e w' ⟨rfl, rfl⟩
          rw [HP.out]
          go_wp2_with fail
          refine (writeEsc (w.heap.size + 1) (w.heap.size + 1) (escAll (s.data.toList.take k)) s[k] _ HR.out hI (by omega) (by omega)).mono ?_
          rintro e w2 ⟨rfl, hI2, hb2⟩
          go_wp2
          exact ⟨⟨k + 1, by omega, by go_num, HS.out, by rw [HX.out]; exact hI2, hbl.trans hb2⟩, by simp [intOf]; omega⟩
      · have HV : Hid (escVal s.data.toList = .agg #[.int .i64 0, .string ⟨(escAll s.data.toList).toArray⟩]) := escVal_ok (v_ok h40 (plain_end s k hlt HA.out))
        have HX : Hid (escAll (s.data.toList.take k) = escAll s.data.toList) := escAll_end s k hlt
        go_wp2_with fail
        refine (Tryz.Builder_String_any_k (w.heap.size + 1) (w.heap.size + 1) (escAll (s.data.toList.take k)) _ hI (by omega)).mono ?_
        rintro e w2 ⟨rfl, hI2, hb2, hk2⟩
        rw [HX.out]
        obtain ⟨hc, hf⟩ := bcell (hbl.trans hb2)
        have hz2 := blt hI2
        generalize escAll s.data.toList = x at *
        go_wp2
        refine bodyPost_ret (v := .agg #[.int .i64 0, .string ⟨x.toArray⟩]) (by simp [results, Tryz.results101, go_sem, hc]) rfl ⟨returned_agg HV.out.symm, ?_⟩
        exact ((((Below.refl _ w).alloc (Nat.le_refl _) _).trans ((hbl.trans hb2).mono (by omega))).setCell (by simp) _).setCell (by simp) _
end Esc
end Go.Proofs.YtahkpgffoiaeiaaGreatDoor
/- The program's texts of terms: termText. Condition: the table of powers of ten lies as its initialiser lays it. -/
namespace Go.Proofs.YtahkpgffoiaeiaaGreatDoor
open Go.RowKit
set_option linter.unusedVariables false
namespace Ex
open Nd (NodeD)
open Go.Lib (decDigits)
def Tab (w : World) : Prop := Lib.TabIs Tryz.prog w "internal/strconv.uint64pow10" .u64 Lib.pow10Tab
theorem Tab.below {w w' : World} (h : Tab w) (hb : Below w.heap.size w w') : Tab w' := Lib.tabBelow_of_tabIs h w' hb
theorem itoa_dec {n : Int} (h : 0 ≤ n) : Lib.itoa n = decDigits n.toNat := by unfold Lib.itoa; rw [if_neg (by omega)]
def str (l : List UInt8) : ByteArray := ⟨l.toArray⟩
theorem str_app (a b : List UInt8) : str a ++ str b = str (a ++ b) := by
  unfold str
  apply ByteArray.ext
  simp
theorem str_size (l : List UInt8) : (str l).size = l.length := by simp [str, ByteArray.size]
theorem add_str (a b : ByteArray) (h : a.size + b.size ≤ 1000000) (w : World) : Sem.run Tryz.prog (Op.stringOp .add a b) w = .ok (.string (a ++ b)) w := run_string_add_sum w a b (by omega)
def sgTail (k : Int) : ByteArray := str ([43, 45, 42, 47, 60, 61, 38].drop (k - 3).toNat)
theorem slice1 {k : Int} (h : k = 3 ∨ k = 4 ∨ k = 5 ∨ k = 6 ∨ k = 7 ∨ k = 8 ∨ k = 9) (w : World) : Sem.run Tryz.prog (Instr.slice 9 (.string ⟨#[43, 45, 42, 47, 60, 61, 38]⟩) (some (.int .i64 (k - 3))) none none) w = .ok (.string (sgTail k)) w := by
  rcases h with rfl | rfl | rfl | rfl | rfl | rfl | rfl <;> kernel_rfl
theorem slice2 {k : Int} (h : k = 3 ∨ k = 4 ∨ k = 5 ∨ k = 6 ∨ k = 7 ∨ k = 8 ∨ k = 9) (w : World) : Sem.run Tryz.prog (Instr.slice 9 (.string (sgTail k)) none (some (.int .i64 1)) none) w = .ok (.string (str [signOf k])) w := by
  rcases h with rfl | rfl | rfl | rfl | rfl | rfl | rfl <;> kernel_rfl
theorem ret_text {c d : Int} {a b : ByteArray} (h : c = d) (h2 : a = b) : Ending.returned (.agg #[.int .i64 c, .string a]) = .returned (.agg #[.int .i64 d, .string b]) := by rw [h, h2]
/-- What ExprText answers as text. -/
def textOf (ns : List NodeD) : List UInt8 := match topF ns with
  | some p => if eFault ns = 0 then p.1.txt else []
  | none => []
theorem text_ok {ns : List NodeD} {t : Tm} (h : eFault ns = 0) (h2 : topF ns = some (t, 0)) : textOf ns = t.txt := by unfold textOf; rw [h2]; simp only; rw [if_pos h]
theorem text_bad {ns : List NodeD} (h : eFault ns ≠ 0) : textOf ns = [] := by
  unfold textOf
  split
  · rw [if_neg h]
  · rfl
end Ex
end Go.Proofs.YtahkpgffoiaeiaaGreatDoor
/- The text of a process, as a plain function. -/
namespace Go.Proofs.YtahkpgffoiaeiaaGreatDoor
open Go.RowKit
set_option linter.unusedVariables false
namespace Pf
open Ex (hid inR eFault str str_app str_size textOf text_ok top_of_e of_e topF top_nodes txt_len near_of_ok dec_len)
open Nd (NodeD)
open St (StepD)
open Tr (nf)
open Go.Lib (decDigits)
theorem text_len {ns : List NodeD} (h : eFault ns = 0) : (textOf ns).length ≤ 64 := by
  obtain ⟨t, ht⟩ := top_of_e h
  rw [text_ok h ht]
  have hn := top_nodes h ht
  have h1 := txt_len t (near_of_ok hn.2.1)
  have h2 := (of_e h).2.1
  have h3 := hn.2.2
  omega
def wordL (k : Int) : List UInt8 := if k = 1 then [115, 101, 113] else if k = 2 then [116, 97, 115, 107] else if k = 3 then [120, 111, 114] else if k = 4 then [97, 110, 100] else if k = 5 then [119, 97, 105, 116] else if k = 6 then [116, 105, 109, 101, 114] else if k = 7 then [115, 101, 116] else if k = 8 then [103, 117, 97, 114, 100] else []
def condL (s : StepD) : List UInt8 := if s.cond.length = 0 then [] else [105, 102, 32] ++ textOf s.cond ++ [32]
def tailL (s : StepD) : List UInt8 := if s.kind = 2 then [32] ++ s.name.data.toList else if s.kind = 7 then [32, 118] ++ decDigits s.arg.toNat ++ [32] ++ textOf s.expr else if s.kind = 5 ∨ s.kind = 6 ∨ s.kind = 8 then [32] ++ decDigits s.arg.toNat else []
def lineL (s : StepD) : List UInt8 := condL s ++ wordL s.kind ++ tailL s
def padL : Nat → List UInt8
  | 0 => []
  | n + 1 => padL n ++ [32, 32]
theorem pad_len : ∀ n, (padL n).length = 2 * n
  | 0 => rfl
  | n + 1 => by rw [padL, List.length_append, pad_len n]; simp; omega
def procL (ss : List StepD) : Nat → List UInt8
  | 0 => []
  | i + 1 => procL ss i ++ padL ((path ss (i + 1)).length - 1) ++ lineL (PJ ss i) ++ [10]
def procT (ss : List StepD) : ByteArray := if pFault ss = 0 then str (procL ss ss.length) else str []
theorem procT_ok {ss : List StepD} (h : pFault ss = 0) : procT ss = str (procL ss ss.length) := by unfold procT; rw [if_pos h]
theorem procT_bad {ss : List StepD} (h : pFault ss ≠ 0) : procT ss = str [] := by unfold procT; rw [if_neg h]
/-- What a step's text wants of it. -/
structure Fine (s : StepD) : Prop where
  kind : inR s.kind 1 8 = true
  name : s.kind = 2 → s.name.size ≤ 8
  arg : 0 ≤ s.arg ∧ s.arg ≤ 99
  cond : 0 < s.cond.length → eFault s.cond = 0
  expr : s.kind = 7 → eFault s.expr = 0
theorem bsize (b : ByteArray) : b.data.toList.length = b.size := rfl
theorem nf_len {l : List UInt8} (h : nf l = 0) : l.length ≤ 8 := by
  unfold nf at h
  split at h
  · cases h
  split at h
  · cases h
  split at h
  · cases h
  omega
theorem fine {ss : List StepD} {i : Nat} (hi : i < ss.length) (h : pFault ss = 0) : Fine ss[i] := by
  obtain ⟨_, h1, h2, h3⟩ := of_p h
  have e := of_one (first_all h1 hi)
  have e2 := first_all h2 hi
  rw [PJ_eq hi] at e
  obtain ⟨f, _, _, _, p⟩ := e
  unfold formOk at f
  have fk : inR ss[i].kind 1 8 = true := (Bool.and_eq_true _ _ ▸ f).1
  unfold partC at p
  have fb : bare ss[i] = true := (Bool.and_eq_true _ _ ▸ f).2
  refine ⟨fk, fun hk => ?_, ?_, fun hc => ?_, fun hk => ?_⟩
  · by_cases hn : nf ss[i].name.data.toList = 0
    · have := nf_len hn
      rw [bsize] at this
      exact this
    · rw [if_pos ⟨hk, hn⟩] at p; exact absurd p hn
  · by_cases h5 : inR ss[i].kind 5 8 = true
    · have h5' := Ex.inR_iff.1 h5
      have hn : ¬ (ss[i].kind = 2 ∧ nf ss[i].name.data.toList ≠ 0) := by omega
      rw [if_neg hn] at p
      have hk : ss[i].kind = 5 ∨ ss[i].kind = 6 ∨ ss[i].kind = 7 ∨ ss[i].kind = 8 := by omega
      by_cases ha : argOk ss[i] = false
      · rw [if_pos ha] at p; cases p
      · unfold argOk at ha
        rcases hk with hk | hk | hk | hk
        · rw [hk] at ha; simp at ha; have := Ex.inR_iff.1 ha; omega
        · rw [hk] at ha; simp at ha; have := Ex.inR_iff.1 ha; omega
        · rw [hk] at ha; simp at ha; have := Ex.inR_iff.1 ha; omega
        · rw [hk] at ha; simp at ha; have := Ex.inR_iff.1 ha; omega
    · unfold bare at fb
      simp [h5] at fb
      omega
  · unfold linkC at e2
    rw [PJ_eq hi] at e2
    split at e2
    · cases e2
    split at e2
    · cases e2
    first | exact e2 | (rw [if_pos hc] at e2; exact e2)
  · have hn : ¬ (ss[i].kind = 2 ∧ nf ss[i].name.data.toList ≠ 0) := by omega
    rw [if_neg hn] at p
    by_cases ha : argOk ss[i] = false
    · rw [if_pos ha] at p; cases p
    · rw [if_neg ha, if_pos hk] at p; exact p
theorem cond_len {s : StepD} (h : Fine s) : (condL s).length ≤ 68 := by
  unfold condL
  split
  · simp
  · have := text_len (h.cond (by omega))
    simp; omega
theorem word_len (k : Int) : (wordL k).length ≤ 5 := by
  unfold wordL
  repeat' split
  all_goals decide
theorem dig_len {n : Int} (h : 0 ≤ n ∧ n ≤ 99) : (decDigits n.toNat).length ≤ 2 := dec_len 1 n.toNat (by omega)
theorem tail_len {s : StepD} (h : Fine s) : (tailL s).length ≤ 80 := by
  unfold tailL
  split
  · rename_i hk
    have := h.name hk
    rw [List.length_append, bsize]
    simp; omega
  split
  · rename_i hk
    have h1 := text_len (h.expr hk)
    have h2 := dig_len h.arg
    simp; omega
  split
  · rename_i hk
    have h2 := dig_len h.arg
    simp; omega
  · simp
theorem line_len {s : StepD} (h : Fine s) : (lineL s).length ≤ 200 := by
  have h1 := cond_len h
  have h2 := word_len s.kind
  have h3 := tail_len h
  unfold lineL
  simp; omega
theorem proc_len {ss : List StepD} (h : pFault ss = 0) : ∀ i, i ≤ ss.length → (procL ss i).length ≤ 300 * i
  | 0, _ => by simp [procL]
  | i + 1, hi => by
    have h0 := proc_len h i (by omega)
    have h1 := line_len (fine (i := i) (by omega) h)
    have h2 := (walked (ss := ss) (i := i + 1) hi (first_to (of_p h).2.1 hi)).deep
    rw [procL, List.length_append, List.length_append, List.length_append, pad_len, PJ_eq (by omega)]
    simp; omega
end Pf
end Go.Proofs.YtahkpgffoiaeiaaGreatDoor
