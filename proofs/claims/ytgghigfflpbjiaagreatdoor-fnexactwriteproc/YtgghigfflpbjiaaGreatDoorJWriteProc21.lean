/- Laid together: TfF, TfD. -/
import Derived.Test.YtgghigfflpbjiaaGreatDoorJWriteProc39
import Derived.Test.YtgghigfflpbjiaaGreatDoorJWriteProc20
import Derived.Deep.CutRange
/- The specification's TreeOf: names and values of attrs. -/
namespace Go.Proofs.YtgghigfflpbjiaaGreatDoor
open Go.RowKit
set_option linter.unusedVariables false
namespace Tf
open Ex (hid inR eFault str str_size textOf specDigits)
open Nd (NodeD)
open St (StepD)
open Tr (AttrD ElemD AttrsAt ElemsAt fault)
open Pf
open Nst (own)
open Go.Lib (decDigits)
set_option maxRecDepth 100000 in
set_option maxHeartbeats 2000000 in
theorem specNames (s : StepD) (w : World) (hk : inR s.kind 1 8 = true) :
    Calls Tryz.prog 38 #[.int .i64 s.kind] w fun e w' => ∃ v, e = .returned v ∧ SsAt w' w.heap.size w'.heap.size v (namesL s) ∧ Below w.heap.size w w' := by
  have HB : ∀ o, Hid (Below w.heap.size w (w.alloc o)) := fun o => hid ((Below.refl _ w).alloc (Nat.le_refl _) _)
  rcases kinds hk with k | k | k | k | k | k | k | k
  · have HN : Hid (namesL s = []) := hid (by unfold namesL; rw [kind0 (by omega)]; rfl)
    rw [k]
    clear k hk
    go_enter Tryz.func38, Tryz.ntmps38
    go_wp2
    go_ret
    exact ⟨_, rfl, by rw [HN.out]; exact ss_nil _ _ _ _ _, (HB _).out⟩
  · have HN : Hid (namesL s = [aName]) := hid (by unfold namesL; rw [kind2 k]; rfl)
    rw [k]
    clear k hk
    go_enter Tryz.func38, Tryz.ntmps38
    go_wp2
    go_ret
    exact ⟨_, rfl, by rw [HN.out]; exact ss_one _ _, (HB _).out⟩
  · have HN : Hid (namesL s = []) := hid (by unfold namesL; rw [kind0 (by omega)]; rfl)
    rw [k]
    clear k hk
    go_enter Tryz.func38, Tryz.ntmps38
    go_wp2
    go_ret
    exact ⟨_, rfl, by rw [HN.out]; exact ss_nil _ _ _ _ _, (HB _).out⟩
  · have HN : Hid (namesL s = []) := hid (by unfold namesL; rw [kind0 (by omega)]; rfl)
    rw [k]
    clear k hk
    go_enter Tryz.func38, Tryz.ntmps38
    go_wp2
    go_ret
    exact ⟨_, rfl, by rw [HN.out]; exact ss_nil _ _ _ _ _, (HB _).out⟩
  · have HN : Hid (namesL s = [aMsg]) := hid (by unfold namesL; rw [kind5 k]; rfl)
    rw [k]
    clear k hk
    go_enter Tryz.func38, Tryz.ntmps38
    go_wp2
    go_ret
    exact ⟨_, rfl, by rw [HN.out]; exact ss_one _ _, (HB _).out⟩
  · have HN : Hid (namesL s = [aTicks]) := hid (by unfold namesL; rw [kind6 (by omega)]; rfl)
    rw [k]
    clear k hk
    go_enter Tryz.func38, Tryz.ntmps38
    go_wp2
    go_ret
    exact ⟨_, rfl, by rw [HN.out]; exact ss_one _ _, (HB _).out⟩
  · have HN : Hid (namesL s = [aVar, aTo]) := hid (by unfold namesL; rw [kind7 k]; rfl)
    rw [k]
    clear k hk
    go_enter Tryz.func38, Tryz.ntmps38
    go_wp2
    go_ret
    exact ⟨_, rfl, by rw [HN.out]; exact ss_two _ _ _, (HB _).out⟩
  · have HN : Hid (namesL s = [aTicks]) := hid (by unfold namesL; rw [kind6 (by omega)]; rfl)
    rw [k]
    clear k hk
    go_enter Tryz.func38, Tryz.ntmps38
    go_wp2
    go_ret
    exact ⟨_, rfl, by rw [HN.out]; exact ss_one _ _, (HB _).out⟩
set_option maxRecDepth 100000 in
set_option maxHeartbeats 2000000 in
theorem sattrName (B : Nat) (s : StepD) (g o : Nat) (vc ve : Value) (w : World) (hs : SAt w g o s vc ve) (hc : Nd.At w B vc s.cond) (he : Nd.At w B ve s.expr) :
    Calls Tryz.prog 39 #[.pointer (some ⟨g, o, none⟩), .string aName] w fun e w' => e = .returned (.string (s.name)) ∧ Below w.heap.size w w' := by
  obtain ⟨c0, c1, c2, c3, c4, c5⟩ := hs
  obtain ⟨a1, d1, rfl⟩ := hc.slice
  obtain ⟨a2, d2, rfl⟩ := he.slice
  have q0 : ((ByteArray.mk #[110, 97, 109, 101]).toList == (ByteArray.mk #[110, 97, 109, 101]).toList) = true := lit_eq [110, 97, 109, 101]
  clear hc he
  unfold aName
  go_enter Tryz.func39, Tryz.ntmps39
  go_wp2
  go_ret
  exact ⟨rfl, Below.refl _ _⟩
set_option maxRecDepth 100000 in
set_option maxHeartbeats 2000000 in
theorem sattrTo (B : Nat) (s : StepD) (g o : Nat) (vc ve : Value) (w : World) (hf : eFault s.expr = 0) (hs : SAt w g o s vc ve) (hc : Nd.At w B vc s.cond) (he : Nd.At w B ve s.expr) :
    Calls Tryz.prog 39 #[.pointer (some ⟨g, o, none⟩), .string aTo] w fun e w' => e = .returned (.string (str (textOf s.expr))) ∧ Below w.heap.size w w' := by
  obtain ⟨c0, c1, c2, c3, c4, c5⟩ := hs
  obtain ⟨a1, d1, rfl⟩ := hc.slice
  obtain ⟨a2, d2, rfl⟩ := he.slice
  have HX := hid (specETxt B s.expr _ w hf he)
  have q0 : ((ByteArray.mk #[116, 111]).toList == (ByteArray.mk #[110, 97, 109, 101]).toList) = false := lit_ne (by decide)
  have q1 : ((ByteArray.mk #[116, 111]).toList == (ByteArray.mk #[116, 111]).toList) = true := lit_eq [116, 111]
  clear hc he
  unfold aTo
  go_enter Tryz.func39, Tryz.ntmps39
  go_wp2_with fail
  refine HX.out.mono ?_
  rintro e w1 ⟨rfl, hb1⟩
  go_wp2
  go_ret
  exact ⟨rfl, hb1⟩
set_option maxRecDepth 100000 in
set_option maxHeartbeats 2000000 in
theorem sattrMsg (B : Nat) (s : StepD) (g o : Nat) (vc ve : Value) (w : World) (h0 : 0 ≤ s.arg) (h1 : s.arg ≤ 99) (hs : SAt w g o s vc ve) (hc : Nd.At w B vc s.cond) (he : Nd.At w B ve s.expr) :
    Calls Tryz.prog 39 #[.pointer (some ⟨g, o, none⟩), .string aMsg] w fun e w' => e = .returned (.string (digs s)) ∧ Below w.heap.size w w' := by
  obtain ⟨c0, c1, c2, c3, c4, c5⟩ := hs
  obtain ⟨a1, d1, rfl⟩ := hc.slice
  obtain ⟨a2, d2, rfl⟩ := he.slice
  obtain ⟨k, hk⟩ : ∃ k : Nat, s.arg = (k : Int) := ⟨s.arg.toNat, by omega⟩
  have HX := hid (specDigits (k + 1) k w (by omega) (by omega))
  have HD : Hid (digs s = str (decDigits k)) := hid (by unfold digs; rw [hk]; rfl)
  rw [hk] at c3
  clear hk
  have q0 : ((ByteArray.mk #[109, 115, 103]).toList == (ByteArray.mk #[110, 97, 109, 101]).toList) = false := lit_ne (by decide)
  have q1 : ((ByteArray.mk #[109, 115, 103]).toList == (ByteArray.mk #[116, 111]).toList) = false := lit_ne (by decide)
  clear hc he
  unfold aMsg
  go_enter Tryz.func39, Tryz.ntmps39
  go_wp2_with fail
  refine HX.out.mono ?_
  rintro e w1 ⟨rfl, hb1⟩
  go_wp2
  go_ret
  exact ⟨by rw [HD.out]; rfl, hb1⟩
set_option maxRecDepth 100000 in
set_option maxHeartbeats 2000000 in
theorem sattrTicks (B : Nat) (s : StepD) (g o : Nat) (vc ve : Value) (w : World) (h0 : 0 ≤ s.arg) (h1 : s.arg ≤ 99) (hs : SAt w g o s vc ve) (hc : Nd.At w B vc s.cond) (he : Nd.At w B ve s.expr) :
    Calls Tryz.prog 39 #[.pointer (some ⟨g, o, none⟩), .string aTicks] w fun e w' => e = .returned (.string (digs s)) ∧ Below w.heap.size w w' := by
  obtain ⟨c0, c1, c2, c3, c4, c5⟩ := hs
  obtain ⟨a1, d1, rfl⟩ := hc.slice
  obtain ⟨a2, d2, rfl⟩ := he.slice
  obtain ⟨k, hk⟩ : ∃ k : Nat, s.arg = (k : Int) := ⟨s.arg.toNat, by omega⟩
  have HX := hid (specDigits (k + 1) k w (by omega) (by omega))
  have HD : Hid (digs s = str (decDigits k)) := hid (by unfold digs; rw [hk]; rfl)
  rw [hk] at c3
  clear hk
  have q0 : ((ByteArray.mk #[116, 105, 99, 107, 115]).toList == (ByteArray.mk #[110, 97, 109, 101]).toList) = false := lit_ne (by decide)
  have q1 : ((ByteArray.mk #[116, 105, 99, 107, 115]).toList == (ByteArray.mk #[116, 111]).toList) = false := lit_ne (by decide)
  clear hc he
  unfold aTicks
  go_enter Tryz.func39, Tryz.ntmps39
  go_wp2_with fail
  refine HX.out.mono ?_
  rintro e w1 ⟨rfl, hb1⟩
  go_wp2
  go_ret
  exact ⟨by rw [HD.out]; rfl, hb1⟩
set_option maxRecDepth 100000 in
set_option maxHeartbeats 2000000 in
theorem sattrVar (B : Nat) (s : StepD) (g o : Nat) (vc ve : Value) (w : World) (h0 : 0 ≤ s.arg) (h1 : s.arg ≤ 99) (hs : SAt w g o s vc ve) (hc : Nd.At w B vc s.cond) (he : Nd.At w B ve s.expr) :
    Calls Tryz.prog 39 #[.pointer (some ⟨g, o, none⟩), .string aVar] w fun e w' => e = .returned (.string (digs s)) ∧ Below w.heap.size w w' := by
  obtain ⟨c0, c1, c2, c3, c4, c5⟩ := hs
  obtain ⟨a1, d1, rfl⟩ := hc.slice
  obtain ⟨a2, d2, rfl⟩ := he.slice
  obtain ⟨k, hk⟩ : ∃ k : Nat, s.arg = (k : Int) := ⟨s.arg.toNat, by omega⟩
  have HX := hid (specDigits (k + 1) k w (by omega) (by omega))
  have HD : Hid (digs s = str (decDigits k)) := hid (by unfold digs; rw [hk]; rfl)
  rw [hk] at c3
  clear hk
  have q0 : ((ByteArray.mk #[118, 97, 114]).toList == (ByteArray.mk #[110, 97, 109, 101]).toList) = false := lit_ne (by decide)
  have q1 : ((ByteArray.mk #[118, 97, 114]).toList == (ByteArray.mk #[116, 111]).toList) = false := lit_ne (by decide)
  clear hc he
  unfold aVar
  go_enter Tryz.func39, Tryz.ntmps39
  go_wp2_with fail
  refine HX.out.mono ?_
  rintro e w1 ⟨rfl, hb1⟩
  go_wp2
  go_ret
  exact ⟨by rw [HD.out]; rfl, hb1⟩
theorem sattrKind (B : Nat) (s : StepD) (g o : Nat) (vc ve : Value) (w : World) (hF : Fine s) (hs : SAt w g o s vc ve) (hc : Nd.At w B vc s.cond) (he : Nd.At w B ve s.expr) (j : Nat) (hj : j < (kindA s).length) :
    Calls Tryz.prog 39 #[.pointer (some ⟨g, o, none⟩), .string (kindA s)[j].name] w fun e w' => e = .returned (.string (kindA s)[j].value) ∧ Below w.heap.size w w' := by
  rcases kinds hF.kind with k | k | k | k | k | k | k | k
  · simp [kind0 (s := s) (by omega)] at hj
  · have e := kind2 k
    simp only [e] at hj ⊢
    obtain rfl : j = 0 := by simpa using hj
    exact sattrName B s g o vc ve w hs hc he
  · simp [kind0 (s := s) (by omega)] at hj
  · simp [kind0 (s := s) (by omega)] at hj
  · have e := kind5 k
    simp only [e] at hj ⊢
    obtain rfl : j = 0 := by simpa using hj
    exact sattrMsg B s g o vc ve w hF.arg.1 hF.arg.2 hs hc he
  · have e := kind6 (s := s) (by omega)
    simp only [e] at hj ⊢
    obtain rfl : j = 0 := by simpa using hj
    exact sattrTicks B s g o vc ve w hF.arg.1 hF.arg.2 hs hc he
  · have e := kind7 k
    simp only [e] at hj ⊢
    match j, hj with
    | 0, _ => exact sattrVar B s g o vc ve w hF.arg.1 hF.arg.2 hs hc he
    | 1, _ => exact sattrTo B s g o vc ve w (hF.expr k) hs hc he
  · have e := kind6 (s := s) (by omega)
    simp only [e] at hj ⊢
    obtain rfl : j = 0 := by simpa using hj
    exact sattrTicks B s g o vc ve w hF.arg.1 hF.arg.2 hs hc he
end Tf
end Go.Proofs.YtgghigfflpbjiaaGreatDoor
/- The program's element of a step. -/
namespace Go.Proofs.YtgghigfflpbjiaaGreatDoor
open Go.RowKit
set_option linter.unusedVariables false
namespace Tf
open Ex (hid inR eFault str str_size textOf implExprText)
open Nd (NodeD)
open St (StepD)
open Tr (AttrD ElemD AttrsAt ElemsAt fault)
open Pf
open Nst (own)
open Go.Lib (decDigits)
theorem word_eq {k : Int} (h : inR k 1 8 = true) : (ruleD k).word = str (wordL k) := by
  rcases kinds h with rfl | rfl | rfl | rfl | rfl | rfl | rfl | rfl
  all_goals rfl
theorem own_attr_snoc {w : World} {B : Nat} {v : Value} {l : List AttrD} {a : AttrD} (h : w.ownsRow B 68 2 v (l.length + 1) (avals l ++ aval a)) : w.ownsRow B 68 2 v (l ++ [a]).length (avals (l ++ [a])) := by
  rw [List.length_append, avals_snoc]
  exact h
theorem take_succ_kind {s : StepD} {j : Nat} (h : j < (kindA s).length) : condA s ++ (kindA s).take (j + 1) = (condA s ++ (kindA s).take j) ++ [(kindA s)[j]] := by
  rw [List.append_assoc]
  congr 1
  exact (List.take_append_getElem h).symm
theorem cond_take_len {s : StepD} {j : Nat} (h : j ≤ (kindA s).length) : (condA s ++ (kindA s).take j).length ≤ 3 := by
  have := attrs_len s
  unfold attrsOf at this
  rw [List.length_append] at this ⊢
  rw [List.length_take]
  omega
theorem own_set3 {w : World} {B b n : Nat} {e : TypeId} {sz : Nat} {v x y z : Value} {xs : List Value} (h : w.ownsRow B e sz v n xs) (hb : b < B) : (((w.setCell ⟨b, 0, none⟩ x).setCell ⟨b, 1, none⟩ y).setCell ⟨b, 2, none⟩ z).ownsRow B e sz v n xs :=
  ownsRow_setCell_below (ownsRow_setCell_below (ownsRow_setCell_below h (a := ⟨b, 0, none⟩) hb _) (a := ⟨b, 1, none⟩) hb _) (a := ⟨b, 2, none⟩) hb _
set_option maxRecDepth 100000 in
set_option maxHeartbeats 8000000 in
theorem implElem (B : Nat) (s : StepD) (vc ve : Value) (w : World) (hF : Fine s) (hs : St.Small1 1048576 s) (hc : Nd.At w B vc s.cond) (he : Nd.At w B ve s.expr) (ht : Ex.Tab w) (hr : Rul w) :
    Calls Tryz.prog 23 #[sagg s vc ve] w fun e w' => (∃ va, e = .returned (.agg #[.string (str (wordL s.kind)), .int .i64 s.parent, va]) ∧ w'.ownsRow w.heap.size 68 2 va (attrsOf s).length (avals (attrsOf s))) ∧ Below w.heap.size w w' := by
  obtain ⟨a1, c1, rfl⟩ := hc.slice
  obtain ⟨a2, c2, rfl⟩ := he.slice
  obtain ⟨hs1, hs2, hs3⟩ := hs
  have hgl := hr.lt
  have HB0 : Hid (Below w.heap.size w ((w.alloc (sobj s (.slice a1 s.cond.length c1) (.slice a2 s.expr.length c2))).alloc (.cells #[.string ⟨#[]⟩, .int .i64 0, .slice none 0 0] 53))) := hid (((Below.refl _ w).alloc (Nat.le_refl _) _).alloc (by simp) _)
  have HRU := hid (ruleOk s.kind _ hF.kind (hr.below HB0.out hgl))
  have HW' := hid (word_eq hF.kind)
  have HC := hid hc
  have HE := hid he
  have HT := hid ht
  have HF := hid hF
  obtain ⟨j0, hj, hy0, hy1, hy2⟩ := info_parts infoAttr
  clear hc he ht hr hF
  have HRR : Hid ((ruleD s.kind).row = #[.string (ruleD s.kind).word, .bool (ruleD s.kind).hn, .bool (ruleD s.kind).he, .int .i64 (ruleD s.kind).la, .int .i64 (ruleD s.kind).ma, .int .i64 (ruleD s.kind).lk, .int .i64 (ruleD s.kind).mx]) := hid rfl
  rw [HRR.out] at HRU
  generalize ruleD s.kind = rd at *
  unfold sagg
  go_enter Tryz.func23, Tryz.ntmps23
  go_wp2_with fail
  refine HRU.out.mono ?_
  rintro e w1 ⟨rfl, hb1⟩
  have hz : ((w.alloc (sobj s (.slice a1 s.cond.length c1) (.slice a2 s.expr.length c2))).alloc (.cells #[.string ⟨#[]⟩, .int .i64 0, .slice none 0 0] 53)).heap.size = w.heap.size + 2 := by simp
  have l1 : w.heap.size + 2 ≤ w1.heap.size := by have := hb1.size; omega
  have k0 := kept_cell hb1 (b := w.heap.size) (o := 0) (v := .int .i64 s.kind) (by omega) (by go_simp)
  have k1 := kept_cell hb1 (b := w.heap.size) (o := 1) (v := .int .i64 s.parent) (by omega) (by go_simp)
  have k2 := kept_cell hb1 (b := w.heap.size) (o := 2) (v := .string s.name) (by omega) (by go_simp)
  have k3 := kept_cell hb1 (b := w.heap.size) (o := 3) (v := .int .i64 s.arg) (by omega) (by go_simp)
  have k4 := kept_cell hb1 (b := w.heap.size) (o := 4) (v := .slice a1 s.cond.length c1) (by omega) (by go_simp)
  have k5 := kept_cell hb1 (b := w.heap.size) (o := 5) (v := .slice a2 s.expr.length c2) (by omega) (by go_simp)
  have u0 := kept_cell hb1 (b := w.heap.size + 1) (o := 0) (v := .string ⟨#[]⟩) (by omega) (by go_simp)
  have u1 := kept_cell hb1 (b := w.heap.size + 1) (o := 1) (v := .int .i64 0) (by omega) (by go_simp)
  have u2 := kept_cell hb1 (b := w.heap.size + 1) (o := 2) (v := .slice none 0 0) (by omega) (by go_simp)
  have x0 := kept_free hb1 (b := w.heap.size + 1) (o := 0) (by omega) (by go_simp)
  have x1 := kept_free hb1 (b := w.heap.size + 1) (o := 1) (by omega) (by go_simp)
  have x2 := kept_free hb1 (b := w.heap.size + 1) (o := 2) (by omega) (by go_simp)
  have HB1 : Hid (Below w.heap.size w w1) := hid (HB0.out.trans (hb1.mono HB0.out.size))
  clear hb1 hz HRU HB0
  have hx2 : Below w1.heap.size w1 (w1.alloc (.cells #[.string rd.word, .bool rd.hn, .bool rd.he, .int .i64 rd.la, .int .i64 rd.ma, .int .i64 rd.lk, .int .i64 rd.mx] 82)) := (Below.refl _ w1).alloc (Nat.le_refl _) _
  have m0 := kept_cell hx2 (by omega) k0
  have m1 := kept_cell hx2 (by omega) k1
  have m2 := kept_cell hx2 (by omega) k2
  have m3 := kept_cell hx2 (by omega) k3
  have m4 := kept_cell hx2 (by omega) k4
  have m5 := kept_cell hx2 (by omega) k5
  have v0 := kept_cell hx2 (by omega) u0
  have v1 := kept_cell hx2 (by omega) u1
  have v2 := kept_cell hx2 (by omega) u2
  have y0 := kept_free hx2 (by omega) x0
  have y1 := kept_free hx2 (by omega) x1
  have y2 := kept_free hx2 (by omega) x2
  have rw0 : (w1.alloc (.cells #[.string rd.word, .bool rd.hn, .bool rd.he, .int .i64 rd.la, .int .i64 rd.ma, .int .i64 rd.lk, .int .i64 rd.mx] 82)).cell? ⟨w1.heap.size, 0, none⟩ = some (.string rd.word) := by go_simp
  have hz2 : (w1.alloc (.cells #[.string rd.word, .bool rd.hn, .bool rd.he, .int .i64 rd.la, .int .i64 rd.ma, .int .i64 rd.lk, .int .i64 rd.mx] 82)).heap.size = w1.heap.size + 1 := by simp
  have HB2 : Hid (Below w.heap.size w (w1.alloc (.cells #[.string rd.word, .bool rd.hn, .bool rd.he, .int .i64 rd.la, .int .i64 rd.ma, .int .i64 rd.lk, .int .i64 rd.mx] 82))) := hid (HB1.out.alloc HB1.out.size _)
  have HZ2 := hid hz2
  clear k0 k1 k2 k3 k4 k5 u0 u1 u2 x0 x1 x2 hx2 HB1 hz2
  go_upto_if 17 with fail
  generalize w1.alloc (.cells #[.string rd.word, .bool rd.hn, .bool rd.he, .int .i64 rd.la, .int .i64 rd.ma, .int .i64 rd.lk, .int .i64 rd.mx] 82) = w2 at *
  have lw : w.heap.size < w2.heap.size := by have := HZ2.out; omega
  have lw1 : w.heap.size + 1 < w2.heap.size := by have := HZ2.out; omega
  have lw2 : w1.heap.size < w2.heap.size := by have := HZ2.out; omega
  clear l1
  go_cut [5] from 17 to 22 (fun r wx => Hid (wx.ownsRow w2.heap.size 68 2 r (condA s).length (avals (condA s))) ∧ Hid (Below w2.heap.size w2 wx))
  case first =>
    by_cases hq : s.cond.length = 0
    · have HCO : Hid (condA s = []) := hid (by unfold condA; rw [if_pos hq])
      have q1 : ¬ (0 : Int) < (s.cond.length : Int) := by omega
      clear hq
      go_wp2_with fail
      go_meet
      exact ⟨hid (by rw [HCO.out]; exact World.ownsRow_nil _ _ _ _), hid (Below.refl _ _)⟩
    · have HCO : Hid (condA s = [⟨aIf, str (textOf s.cond)⟩]) := hid (by unfold condA; rw [if_neg hq])
      have q1 : (0 : Int) < (s.cond.length : Int) := by omega
      have HTI := hid (tellIf B s _ _ w2 (by omega) (HC.out.below HB2.out) (HE.out.below HB2.out) (HT.out.below HB2.out))
      unfold sagg aagg aIf at HTI
      clear hq
      go_wp2_with fail
      refine HTI.out.mono ?_
      rintro e w3 ⟨rfl, hb3⟩
      have HB3 := hid hb3
      have HOW : Hid (w3.ownsRow w2.heap.size 68 2 (.slice none 0 0) 0 []) := hid (World.ownsRow_nil _ _ _ _)
      have l3 := hb3.size
      clear hb3 HTI
      go_wp2_with (at_builtin; go_must (refine wpList_append_own _ rfl _ _ 51 rfl w2.heap.size 68 j0 (.agg #[.string ⟨#[]⟩, .string ⟨#[]⟩]) 2 32 Tryz.underlying51 hj hy0 hy1 hy2 rfl (by decide) _ _ _ rfl (HOW.out.alloc _) ⟨w3.heap.size, 0, none⟩ 1 1 [.string ⟨#[105, 102]⟩, .string (str (textOf s.cond))] rfl rfl (news #[.string ⟨#[105, 102]⟩, .string (str (textOf s.cond))] _ _ rfl) (by simp [Value.oneCell']) (by unfold maxLen; omega) (by omega) (by simp; omega) ?_); intro v4 w4 hown4 hg4 _)
      have HOW4 : Hid (w4.ownsRow w2.heap.size 68 2 v4 1 [.string ⟨#[105, 102]⟩, .string (str (textOf s.cond))]) := hid hown4
      have HB4 : Hid (Below w2.heap.size w2 w4) := hid ((HB3.out.alloc l3 _).grown hg4 (by simp; omega) (fun b e => by cases e))
      obtain ⟨a5, c5, rfl⟩ := Nst.own_slice hown4
      clear hown4 hg4
      go_wp2_with fail
      go_meet
      exact ⟨hid (by rw [HCO.out]; exact HOW4.out), HB4⟩
  case rest =>
    obtain ⟨HO5, HB5⟩ := hcut
    obtain ⟨a5, c5, rfl⟩ := Nst.own_slice HO5.out
    have n0 := kept_cell HB5.out lw m0
    have n1 := kept_cell HB5.out lw m1
    have n2 := kept_cell HB5.out lw m2
    have n3 := kept_cell HB5.out lw m3
    have n4 := kept_cell HB5.out lw m4
    have n5 := kept_cell HB5.out lw m5
    have l5 := HB5.out.size
    have HNM := hid (implNames s wc HF.out.kind)
    clear n1 n2 n3 n4 n5
    go_wp2_with fail
    refine HNM.out.mono ?_
    rintro e w6 ⟨v6, rfl, hss, hb6⟩
    obtain ⟨a6, c6, rfl⟩ := hss.slice
    have HSS := hid hss
    have HB6 := hid (HB5.out.trans (hb6.mono HB5.out.size))
    have HO6 : Hid (w6.ownsRow w2.heap.size 68 2 (.slice a5 (condA s).length c5) (condA s ++ (kindA s).take 0).length (avals (condA s ++ (kindA s).take 0))) := hid (by
      rw [List.take_zero, List.append_nil]
      exact Nst.own_kept HO5.out (fun b hb => hb6.block b (Nst.own_lt HO5.out hb).2))
    have HW6 : Hid (∀ b, own (.slice a5 (condA s).length c5) b → b < wc.heap.size ∨ w6.heap.size ≤ b) := hid (fun b hb => .inl (Nst.own_lt HO5.out hb).2)
    have l6 := hb6.size
    have hcl : (condA s).length = (condA s ++ (kindA s).take 0).length := by rw [List.take_zero, List.append_nil]
    have hnl : (namesL s).length = (kindA s).length := by unfold namesL; rw [List.length_map]
    have HNL := hid hnl
    have HCL := hid hcl
    have hkl : (kindA s).length ≤ 3 := by have := attrs_len s; unfold attrsOf at this; rw [List.length_append] at this; omega
    clear hss hb6 HNM HO5 HB5 n0 hnl hcl
    go_wp2_with fail
    go_loopw [5, 7, 27] (fun av nm i wr => ∃ (j : Nat), i = .int .i64 j ∧ j ≤ (namesL s).length ∧ (∃ a7 n7 c7, av = .slice a7 n7 c7) ∧ (∃ un, nm = un) ∧ Hid (wr.ownsRow w2.heap.size 68 2 av (condA s ++ (kindA s).take j).length (avals (condA s ++ (kindA s).take j))) ∧ Hid (∀ b, own av b → b < wc.heap.size ∨ w6.heap.size ≤ b) ∧ Hid (SsAt wr wc.heap.size w6.heap.size (.slice a6 (namesL s).length c6) (namesL s)) ∧ Hid (Below w2.heap.size w2 wr) ∧ w6.heap.size ≤ wr.heap.size) (fun _ _ i _ => (namesL s).length - (intOf i).toNat)
    case atStart => exact ⟨0, rfl, Nat.zero_le _, ⟨_, _, _, rfl⟩, ⟨_, rfl⟩, HO6, HW6, HSS, HB6, Nat.le_refl _⟩
    case round =>
      obtain ⟨j, rfl, hjl, ⟨a7, n7, c7, rfl⟩, ⟨un, rfl⟩, HO, HW, HS, HB, l7⟩ := hrel
      have z0 := kept_cell HB.out lw m0
      have z1 := kept_cell HB.out lw m1
      have z2 := kept_cell HB.out lw m2
      have z3 := kept_cell HB.out lw m3
      have z4 := kept_cell HB.out lw m4
      have z5 := kept_cell HB.out lw m5
      by_cases hlt : j < (namesL s).length
      · have q1 : (j : Int) < ((namesL s).length : Int) := by omega
        obtain ⟨hjk, hne⟩ := names_at s hlt
        obtain ⟨g6, o6, rfl, hg6a, hg6b, hcn⟩ := HS.out.at hlt
        rw [hne] at hcn
        have HBW := hid (HB2.out.trans (HB.out.mono HB2.out.size))
        have HTK := hid (tellKind B s _ _ wr HF.out (by omega) (by omega) (HC.out.below HBW.out) (HE.out.below HBW.out) (HT.out.below HBW.out) j hjk)
        unfold sagg aagg at HTK
        have HTA := hid (take_succ_kind hjk)
        have hct := cond_take_len (s := s) (j := j) (by omega)
        generalize (kindA s)[j] = ak at *
        have hg6l : g6 < wr.heap.size := by omega
        clear hne
        go_wp2_with fail
        refine HTK.out.mono ?_
        rintro e w8 ⟨rfl, hb8⟩
        have HO8 := hid (Nst.own_kept HO.out (fun b hb => hb8.block b (Nst.own_lt HO.out hb).2))
        have HB8 := hid (HB.out.trans (hb8.mono HB.out.size))
        have HS8 := hid (HS.out.keep (fun g h1 h2 => hb8.block g (by omega)))
        have l8 := hb8.size
        have l82 := HB.out.size
        have hn7 : n7 = (condA s ++ (kindA s).take j).length := by
          obtain ⟨a', c', e'⟩ := Nst.own_slice HO.out
          cases e'; rfl
        subst hn7
        clear hb8 HTK HO HB HS
        generalize hL : condA s ++ (kindA s).take j = L at *
        go_wp2_with (at_builtin; go_must (refine wpList_append_own_at _ rfl _ _ 51 rfl w2.heap.size 68 j0 (.agg #[.string ⟨#[]⟩, .string ⟨#[]⟩]) 2 32 Tryz.underlying51 hj hy0 hy1 hy2 rfl (by decide) _ _ _ rfl (HO8.out.alloc _) ⟨w8.heap.size, 0, none⟩ 1 1 [.string ak.name, .string ak.value] rfl rfl (news #[.string ak.name, .string ak.value] _ _ rfl) (by simp [Value.oneCell']) (by unfold maxLen; omega) (by omega) (by simp; omega) ?_); intro v9 w9 hown9 hg9 _ hat9; obtain ⟨a9, c9, rfl⟩ := Nst.own_slice hown9)
        have hnew : Below w8.heap.size w8 (w8.alloc (.cells #[.string ak.name, .string ak.value] 68)) := (Below.refl _ w8).alloc (Nat.le_refl _) _
        have HB9 : Hid (Below w2.heap.size w2 w9) := hid ((HB8.out.alloc (by omega) _).grown hg9 (by simp; omega) (fun b e => (Nst.own_lt HO8.out e).1))
        have HS9 : Hid (SsAt w9 wc.heap.size w6.heap.size (.slice (some ⟨g6, o6, none⟩) (namesL s).length c6) (namesL s)) := hid (HS8.out.keep (fun g h1 h2 => by
          rw [hg9.block g (by simp; omega) (fun e => by
            rcases HW.out g e.symm with h | h <;> omega)]
          exact hnew.block g (by omega)))
        have HW9 : Hid (∀ b, own (.slice a9 (L.length + 1) c9) b → b < wc.heap.size ∨ w6.heap.size ≤ b) := hid (fun b hb => by
          rcases hat9 with e | e
          · exact HW.out b (e.symm.trans hb)
          · unfold own at hb
            rw [e] at hb
            have := Option.some.inj hb
            simp at this
            omega)
        have HO9 : Hid (w9.ownsRow w2.heap.size 68 2 (.slice a9 (L.length + 1) c9) (L ++ [ak]).length (avals (L ++ [ak]))) := hid (own_attr_snoc hown9)
        have l9 : w6.heap.size ≤ w9.heap.size := by have := hg9.size; simp at this; omega
        clear hown9 hg9 hat9 hnew
        go_wp2
        exact ⟨⟨j + 1, by simp, by omega, ⟨_, _, _, rfl⟩, ⟨_, rfl⟩, hid (by rw [HTA.out]; exact HO9.out), HW9, HS9, HB9, l9⟩, by simp [intOf]; omega⟩
      · have q1 : ¬ (j : Int) < ((namesL s).length : Int) := by omega
        have hjn : j = (kindA s).length := by have := HNL.out; omega
        have HAO : Hid (wr.ownsRow w2.heap.size 68 2 (.slice a7 n7 c7) (attrsOf s).length (avals (attrsOf s))) := hid (by
          have := HO.out
          rw [hjn, List.take_length] at this
          exact this)
        have b0 := kept_cell HB.out lw1 v0
        have b1 := kept_cell HB.out lw1 v1
        have b2 := kept_cell HB.out lw1 v2
        have d0 := kept_free HB.out lw1 y0
        have d1 := kept_free HB.out lw1 y1
        have d2 := kept_free HB.out lw1 y2
        have r0 := kept_cell HB.out lw2 rw0
        have HBW := hid (HB2.out.trans (HB.out.mono HB2.out.size))
        have l1 : w.heap.size ≤ w.heap.size + 1 := by omega
        have HWD := HW'.out
        rw [HWD] at r0
        clear HO HW HS HB hjn
        go_wp2
        refine bodyPost_ret (v := .agg #[.string (str (wordL s.kind)), .int .i64 s.parent, .slice a7 n7 c7]) (by simp [results, Tryz.results23, go_sem, b0, b1, b2]) rfl ⟨⟨_, rfl, ?_⟩, setB (setB (setB HBW.out l1 _) l1 _) l1 _⟩
        have l2 := HB2.out.size
        exact Nst.own_mono (own_set3 HAO.out lw1) l2
end Tf
end Go.Proofs.YtgghigfflpbjiaaGreatDoor
