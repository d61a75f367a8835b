/- Laid together: TfF, TfG, TfH. -/
import Derived.Test.YtgghigfflpbjiaaGreatDoorGU
import Derived.Test.YtgghigfflpbjiaaGreatDoorGQ
import Derived.Deep.CutRange
import Derived.Deep.RegionHeld3
import Derived.Deep.AppendLies
import Derived.Deep.RegionLaw
import Derived.Test.YtgghigfflpbjiaaGreatDoorGJ
import Derived.Test.YtgghigfflpbjiaaGreatDoorGS
/- The specification's TreeOf: names and values of attrs. -/
namespace Go.Proofs.YtgghigfflpbjiaaGreatDoor
open Go.RowKit
set_option linter.unusedVariables false
namespace Tf
open Ex (hid inR eFault str str_size textOf specDigits)
open Nd (NodeD)
open St (StepD)
open Tr (AttrD ElemD AttrsAt ElemsAt fault)
open Pf
open Nst (own)
open Go.Lib (decDigits)
set_option maxRecDepth 100000 in
set_option maxHeartbeats 2000000 in
theorem specNames (s : StepD) (w : World) (hk : inR s.kind 1 8 = true) :
    Calls Tryz.prog 38 #[.int .i64 s.kind] w fun e w' => ∃ v, e = .returned v ∧ SsAt w' w.heap.size w'.heap.size v (namesL s) ∧ Below w.heap.size w w' := by
  have HB : ∀ o, Hid (Below w.heap.size w (w.alloc o)) := fun o => hid ((Below.refl _ w).alloc (Nat.le_refl _) _)
  rcases kinds hk with k | k | k | k | k | k | k | k
  · have HN : Hid (namesL s = []) := hid (by unfold namesL; rw [kind0 (by omega)]; rfl)
    rw [k]
    clear k hk
    go_enter Tryz.func38, Tryz.ntmps38
    go_wp2
    go_ret
    exact ⟨_, rfl, by rw [HN.out]; exact ss_nil _ _ _ _ _, (HB _).out⟩
  · have HN : Hid (namesL s = [aName]) := hid (by unfold namesL; rw [kind2 k]; rfl)
    rw [k]
    clear k hk
    go_enter Tryz.func38, Tryz.ntmps38
    go_wp2
    go_ret
    exact ⟨_, rfl, by rw [HN.out]; exact ss_one _ _, (HB _).out⟩
  · have HN : Hid (namesL s = []) := hid (by unfold namesL; rw [kind0 (by omega)]; rfl)
    rw [k]
    clear k hk
    go_enter Tryz.func38, Tryz.ntmps38
    go_wp2
    go_ret
    exact ⟨_, rfl, by rw [HN.out]; exact ss_nil _ _ _ _ _, (HB _).out⟩
  · have HN : Hid (namesL s = []) := hid (by unfold namesL; rw [kind0 (by omega)]; rfl)
    rw [k]
    clear k hk
    go_enter Tryz.func38, Tryz.ntmps38
    go_wp2
    go_ret
    exact ⟨_, rfl, by rw [HN.out]; exact ss_nil _ _ _ _ _, (HB _).out⟩
  · have HN : Hid (namesL s = [aMsg]) := hid (by unfold namesL; rw [kind5 k]; rfl)
    rw [k]
    clear k hk
    go_enter Tryz.func38, Tryz.ntmps38
    go_wp2
    go_ret
    exact ⟨_, rfl, by rw [HN.out]; exact ss_one _ _, (HB _).out⟩
  · have HN : Hid (namesL s = [aTicks]) := hid (by unfold namesL; rw [kind6 (by omega)]; rfl)
    rw [k]
    clear k hk
    go_enter Tryz.func38, Tryz.ntmps38
    go_wp2
    go_ret
    exact ⟨_, rfl, by rw [HN.out]; exact ss_one _ _, (HB _).out⟩
  · have HN : Hid (namesL s = [aVar, aTo]) := hid (by unfold namesL; rw [kind7 k]; rfl)
    rw [k]
    clear k hk
    go_enter Tryz.func38, Tryz.ntmps38
    go_wp2
    go_ret
    exact ⟨_, rfl, by rw [HN.out]; exact ss_two _ _ _, (HB _).out⟩
  · have HN : Hid (namesL s = [aTicks]) := hid (by unfold namesL; rw [kind6 (by omega)]; rfl)
    rw [k]
    clear k hk
    go_enter Tryz.func38, Tryz.ntmps38
    go_wp2
    go_ret
    exact ⟨_, rfl, by rw [HN.out]; exact ss_one _ _, (HB _).out⟩
set_option maxRecDepth 100000 in
set_option maxHeartbeats 2000000 in
theorem sattrName (B : Nat) (s : StepD) (g o : Nat) (vc ve : Value) (w : World) (hs : SAt w g o s vc ve) (hc : Nd.At w B vc s.cond) (he : Nd.At w B ve s.expr) :
    Calls Tryz.prog 39 #[.pointer (some ⟨g, o, none⟩), .string aName] w fun e w' => e = .returned (.string (s.name)) ∧ Below w.heap.size w w' := by
  obtain ⟨c0, c1, c2, c3, c4, c5⟩ := hs
  obtain ⟨a1, d1, rfl⟩ := hc.slice
  obtain ⟨a2, d2, rfl⟩ := he.slice
  have q0 : ((ByteArray.mk #[110, 97, 109, 101]).toList == (ByteArray.mk #[110, 97, 109, 101]).toList) = true := lit_eq [110, 97, 109, 101]
  clear hc he
  unfold aName
  go_enter Tryz.func39, Tryz.ntmps39
  go_wp2
  go_ret
  exact ⟨rfl, Below.refl _ _⟩
set_option maxRecDepth 100000 in
set_option maxHeartbeats 2000000 in
theorem sattrTo (B : Nat) (s : StepD) (g o : Nat) (vc ve : Value) (w : World) (hf : eFault s.expr = 0) (hs : SAt w g o s vc ve) (hc : Nd.At w B vc s.cond) (he : Nd.At w B ve s.expr) :
    Calls Tryz.prog 39 #[.pointer (some ⟨g, o, none⟩), .string aTo] w fun e w' => e = .returned (.string (str (textOf s.expr))) ∧ Below w.heap.size w w' := by
  obtain ⟨c0, c1, c2, c3, c4, c5⟩ := hs
  obtain ⟨a1, d1, rfl⟩ := hc.slice
  obtain ⟨a2, d2, rfl⟩ := he.slice
  have HX := hid (specETxt B s.expr _ w hf he)
  have q0 : ((ByteArray.mk #[116, 111]).toList == (ByteArray.mk #[110, 97, 109, 101]).toList) = false := lit_ne (by decide)
  have q1 : ((ByteArray.mk #[116, 111]).toList == (ByteArray.mk #[116, 111]).toList) = true := lit_eq [116, 111]
  clear hc he
  unfold aTo
  go_enter Tryz.func39, Tryz.ntmps39
  go_wp2_with fail
  refine HX.out.mono ?_
  rintro e w1 ⟨rfl, hb1⟩
  go_wp2
  go_ret
  exact ⟨rfl, hb1⟩
set_option maxRecDepth 100000 in
set_option maxHeartbeats 2000000 in
theorem sattrMsg (B : Nat) (s : StepD) (g o : Nat) (vc ve : Value) (w : World) (h0 : 0 ≤ s.arg) (h1 : s.arg ≤ 99) (hs : SAt w g o s vc ve) (hc : Nd.At w B vc s.cond) (he : Nd.At w B ve s.expr) :
    Calls Tryz.prog 39 #[.pointer (some ⟨g, o, none⟩), .string aMsg] w fun e w' => e = .returned (.string (digs s)) ∧ Below w.heap.size w w' := by
  obtain ⟨c0, c1, c2, c3, c4, c5⟩ := hs
  obtain ⟨a1, d1, rfl⟩ := hc.slice
  obtain ⟨a2, d2, rfl⟩ := he.slice
  obtain ⟨k, hk⟩ : ∃ k : Nat, s.arg = (k : Int) := ⟨s.arg.toNat, by omega⟩
  have HX := hid (specDigits (k + 1) k w (by omega) (by omega))
  have HD : Hid (digs s = str (decDigits k)) := hid (by unfold digs; rw [hk]; rfl)
  rw [hk] at c3
  clear hk
  have q0 : ((ByteArray.mk #[109, 115, 103]).toList == (ByteArray.mk #[110, 97, 109, 101]).toList) = false := lit_ne (by decide)
  have q1 : ((ByteArray.mk #[109, 115, 103]).toList == (ByteArray.mk #[116, 111]).toList) = false := lit_ne (by decide)
  clear hc he
  unfold aMsg
  go_enter Tryz.func39, Tryz.ntmps39
  go_wp2_with fail
  refine HX.out.mono ?_
  rintro e w1 ⟨rfl, hb1⟩
  go_wp2
  go_ret
  exact ⟨by rw [HD.out]; rfl, hb1⟩
set_option maxRecDepth 100000 in
set_option maxHeartbeats 2000000 in
theorem sattrTicks (B : Nat) (s : StepD) (g o : Nat) (vc ve : Value) (w : World) (h0 : 0 ≤ s.arg) (h1 : s.arg ≤ 99) (hs : SAt w g o s vc ve) (hc : Nd.At w B vc s.cond) (he : Nd.At w B ve s.expr) :
    Calls Tryz.prog 39 #[.pointer (some ⟨g, o, none⟩), .string aTicks] w fun e w' => e = .returned (.string (digs s)) ∧ Below w.heap.size w w' := by
  obtain ⟨c0, c1, c2, c3, c4, c5⟩ := hs
  obtain ⟨a1, d1, rfl⟩ := hc.slice
  obtain ⟨a2, d2, rfl⟩ := he.slice
  obtain ⟨k, hk⟩ : ∃ k : Nat, s.arg = (k : Int) := ⟨s.arg.toNat, by omega⟩
  have HX := hid (specDigits (k + 1) k w (by omega) (by omega))
  have HD : Hid (digs s = str (decDigits k)) := hid (by unfold digs; rw [hk]; rfl)
  rw [hk] at c3
  clear hk
  have q0 : ((ByteArray.mk #[116, 105, 99, 107, 115]).toList == (ByteArray.mk #[110, 97, 109, 101]).toList) = false := lit_ne (by decide)
  have q1 : ((ByteArray.mk #[116, 105, 99, 107, 115]).toList == (ByteArray.mk #[116, 111]).toList) = false := lit_ne (by decide)
  clear hc he
  unfold aTicks
  go_enter Tryz.func39, Tryz.ntmps39
  go_wp2_with fail
  refine HX.out.mono ?_
  rintro e w1 ⟨rfl, hb1⟩
  go_wp2
  go_ret
  exact ⟨by rw [HD.out]; rfl, hb1⟩
set_option maxRecDepth 100000 in
set_option maxHeartbeats 2000000 in
theorem sattrVar (B : Nat) (s : StepD) (g o : Nat) (vc ve : Value) (w : World) (h0 : 0 ≤ s.arg) (h1 : s.arg ≤ 99) (hs : SAt w g o s vc ve) (hc : Nd.At w B vc s.cond) (he : Nd.At w B ve s.expr) :
    Calls Tryz.prog 39 #[.pointer (some ⟨g, o, none⟩), .string aVar] w fun e w' => e = .returned (.string (digs s)) ∧ Below w.heap.size w w' := by
  obtain ⟨c0, c1, c2, c3, c4, c5⟩ := hs
  obtain ⟨a1, d1, rfl⟩ := hc.slice
  obtain ⟨a2, d2, rfl⟩ := he.slice
  obtain ⟨k, hk⟩ : ∃ k : Nat, s.arg = (k : Int) := ⟨s.arg.toNat, by omega⟩
  have HX := hid (specDigits (k + 1) k w (by omega) (by omega))
  have HD : Hid (digs s = str (decDigits k)) := hid (by unfold digs; rw [hk]; rfl)
  rw [hk] at c3
  clear hk
  have q0 : ((ByteArray.mk #[118, 97, 114]).toList == (ByteArray.mk #[110, 97, 109, 101]).toList) = false := lit_ne (by decide)
  have q1 : ((ByteArray.mk #[118, 97, 114]).toList == (ByteArray.mk #[116, 111]).toList) = false := lit_ne (by decide)
  clear hc he
  unfold aVar
  go_enter Tryz.func39, Tryz.ntmps39
  go_wp2_with fail
  refine HX.out.mono ?_
  rintro e w1 ⟨rfl, hb1⟩
  go_wp2
  go_ret
  exact ⟨by rw [HD.out]; rfl, hb1⟩
theorem sattrKind (B : Nat) (s : StepD) (g o : Nat) (vc ve : Value) (w : World) (hF : Fine s) (hs : SAt w g o s vc ve) (hc : Nd.At w B vc s.cond) (he : Nd.At w B ve s.expr) (j : Nat) (hj : j < (kindA s).length) :
    Calls Tryz.prog 39 #[.pointer (some ⟨g, o, none⟩), .string (kindA s)[j].name] w fun e w' => e = .returned (.string (kindA s)[j].value) ∧ Below w.heap.size w w' := by
  rcases kinds hF.kind with k | k | k | k | k | k | k | k
  · simp [kind0 (s := s) (by omega)] at hj
  · have e := kind2 k
    simp only [e] at hj ⊢
    obtain rfl : j = 0 := by simpa using hj
    exact sattrName B s g o vc ve w hs hc he
  · simp [kind0 (s := s) (by omega)] at hj
  · simp [kind0 (s := s) (by omega)] at hj
  · have e := kind5 k
    simp only [e] at hj ⊢
    obtain rfl : j = 0 := by simpa using hj
    exact sattrMsg B s g o vc ve w hF.arg.1 hF.arg.2 hs hc he
  · have e := kind6 (s := s) (by omega)
    simp only [e] at hj ⊢
    obtain rfl : j = 0 := by simpa using hj
    exact sattrTicks B s g o vc ve w hF.arg.1 hF.arg.2 hs hc he
  · have e := kind7 k
    simp only [e] at hj ⊢
    match j, hj with
    | 0, _ => exact sattrVar B s g o vc ve w hF.arg.1 hF.arg.2 hs hc he
    | 1, _ => exact sattrTo B s g o vc ve w (hF.expr k) hs hc he
  · have e := kind6 (s := s) (by omega)
    simp only [e] at hj ⊢
    obtain rfl : j = 0 := by simpa using hj
    exact sattrTicks B s g o vc ve w hF.arg.1 hF.arg.2 hs hc he
end Tf
end Go.Proofs.YtgghigfflpbjiaaGreatDoor
/- The specification's TreeOf. -/
namespace Go.Proofs.YtgghigfflpbjiaaGreatDoor
open Go.RowKit
set_option linter.unusedVariables false
namespace Tf
open Ex (hid inR eFault str str_size textOf specDigits)
open Nd (NodeD)
open St (StepD)
open Tr (AttrD ElemD AttrsAt ElemsAt fault)
open Pf
open Nst (own)
open Go.Lib (decDigits)
abbrev tags : Array Value := #[.string ⟨#[]⟩, .string ⟨#[115, 101, 113]⟩, .string ⟨#[116, 97, 115, 107]⟩, .string ⟨#[120, 111, 114]⟩, .string ⟨#[97, 110, 100]⟩, .string ⟨#[119, 97, 105, 116]⟩, .string ⟨#[116, 105, 109, 101, 114]⟩, .string ⟨#[115, 101, 116]⟩, .string ⟨#[103, 117, 97, 114, 100]⟩]
theorem tag_at {w : World} {k : Nat} (h : inR (k : Int) 1 8 = true) : (w.alloc (.cells tags 9)).cell? ⟨w.heap.size, k, none⟩ = some (.string (str (wordL (k : Int)))) := by
  have hk := Ex.inR_iff.1 h
  rw [World.cell?_alloc_new]
  obtain rfl | rfl | rfl | rfl | rfl | rfl | rfl | rfl : k = 1 ∨ k = 2 ∨ k = 3 ∨ k = 4 ∨ k = 5 ∨ k = 6 ∨ k = 7 ∨ k = 8 := by omega
  all_goals rfl
def ElB (w : World) (eb : Nat) (tg : ByteArray) (pr : Int) (va : Value) : Prop := w.heap[eb]? = some (.cells #[.string tg, .int .i64 pr, va] 53 (0, 0))
theorem kept_heap {B : Nat} {W w : World} (h : Below B W w) {b : Nat} (hb : b < B) {x : Option Obj} (hc : W.heap[b]? = x) : w.heap[b]? = x := (h.block b hb).trans hc
theorem el_cell {w : World} {eb : Nat} {tg : ByteArray} {pr : Int} {va : Value} (h : ElB w eb tg pr va) : w.cell? ⟨eb, 0, none⟩ = some (.string tg) ∧ w.cell? ⟨eb, 1, none⟩ = some (.int .i64 pr) ∧ w.cell? ⟨eb, 2, none⟩ = some va ∧ w.frozen? ⟨eb, 2, none⟩ = false := by
  unfold ElB at h
  refine ⟨?_, ?_, ?_, ?_⟩
  · simp [World.cell?, h]
  · simp [World.cell?, h]
  · simp [World.cell?, h]
  · simp [World.frozen?, h]
theorem el_new1 (w : World) (X : Obj) (tg : ByteArray) (pr : Int) (va : Value) : ElB ((w.alloc X).alloc (.cells #[.string tg, .int .i64 pr, va] 53)).drew (w.heap.size + 1) tg pr va := by
  have h := heap_alloc_new (w.alloc X) (.cells #[.string tg, .int .i64 pr, va] 53)
  rw [World.size_alloc] at h
  exact h
theorem el_new0 (w : World) (X : Obj) (tg : ByteArray) (pr : Int) (va : Value) : ElB ((w.alloc (.cells #[.string tg, .int .i64 pr, va] 53)).alloc X).drew w.heap.size tg pr va :=
  (((Below.refl _ (w.alloc (.cells #[.string tg, .int .i64 pr, va] 53))).alloc (Nat.le_refl _) X).block w.heap.size (by simp)).trans (heap_alloc_new w _)
theorem lt_new1 (w : World) (X Y : Obj) : w.heap.size + 1 < ((w.alloc X).alloc Y).drew.heap.size := by
  show w.heap.size + 1 < ((w.alloc X).alloc Y).heap.size
  simp
theorem lt_new0 (w : World) (X Y : Obj) : w.heap.size < ((w.alloc X).alloc Y).drew.heap.size := Nat.lt_of_succ_lt (lt_new1 w X Y)
theorem grown_cell2 {w w' : World} {row : Option Nat} {b o : Nat} {v : Value} (h : w.grownBy w' row) (hc : w.cell? ⟨b, o, none⟩ = some v) (hr : row ≠ some b) : w'.cell? ⟨b, o, none⟩ = some v := by
  have hb : b < w.heap.size := by
    rcases Nat.lt_or_ge b w.heap.size with h1 | h1
    · exact h1
    · simp [World.cell?, Array.getElem?_eq_none h1] at hc
  simp only [World.cell?] at hc ⊢
  rw [h.block b hb (fun e => hr e.symm)]
  exact hc
theorem el_lt {w : World} {eb : Nat} {tg : ByteArray} {pr : Int} {va : Value} (h : ElB w eb tg pr va) : eb < w.heap.size := (Array.getElem?_eq_some_iff.1 h).1
theorem set_el {w : World} {eb : Nat} {tg : ByteArray} {pr : Int} {va vb : Value} (h : ElB w eb tg pr va) : ElB (w.setCell ⟨eb, 2, none⟩ vb) eb tg pr vb := by
  unfold ElB at h ⊢
  simp [World.setCell, Array.getElem?_modify, h]
theorem set_cell2 {w : World} {g c b o : Nat} {u v : Value} (hne : b ≠ g) (hc : w.cell? ⟨b, o, none⟩ = some v) : (w.setCell ⟨g, c, none⟩ u).cell? ⟨b, o, none⟩ = some v := by
  rw [World.cell?_setCell_other _ _ _ _ (fun e => hne (by cases e; rfl))]
  exact hc
theorem any_long {ss : List StepD} {sj : StepD} {j n : Nat} (hp : PJ ss j = sj) (hj : j < ss.length) (hn : n < (attrsOf sj).length) (h : longA (attrsOf sj)[n] = true) : ss.any long = true := by
  rw [List.any_eq_true]
  refine ⟨ss[j], List.getElem_mem hj, ?_⟩
  rw [← PJ_eq hj, hp]
  unfold long
  rw [List.any_eq_true]
  exact ⟨_, List.getElem_mem hn, h⟩
theorem not_long {s : StepD} (h : ∀ q (h : q < (attrsOf s).length), longA (attrsOf s)[q] = false) : long s = false := by
  unfold long
  rw [List.any_eq_false]
  intro x hx
  obtain ⟨q, hq, rfl⟩ := List.getElem_of_mem hx
  simp [h q hq]
theorem none_long {ss : List StepD} (h : ∀ q, q < ss.length → long (PJ ss q) = false) : ss.any long = false := by
  rw [List.any_eq_false]
  intro x hx
  obtain ⟨q, hq, rfl⟩ := List.getElem_of_mem hx
  have := h q hq
  rw [PJ_eq hq] at this
  simp [this]
/-- What l5Tree answers: that a text is too long, or all elements. -/
def L5R (ss : List StepD) (B : Nat) (e : Ending) (w' : World) : Prop := ∃ u b, e = .returned (.tuple #[u, .bool b]) ∧ ((b = false ∧ ss.any long = true) ∨ (b = true ∧ ss.any long = false ∧ EOwn w' B u (treeL ss)))
set_option maxRecDepth 100000 in
set_option maxHeartbeats 16000000 in
theorem specL5Tree (B : Nat) (ss : List StepD) (v : Value) (w : World) (hp : pFault ss = 0) (hsm : St.Small 1048576 ss) (ha : St.At w B v ss) :
    Calls Tryz.prog 19 #[v] w fun e w' => L5R ss w.heap.size e w' ∧ Below w.heap.size w w' := by
  obtain ⟨a, cap, rfl⟩ := ha.slice
  have HFI := hid (fun (i : Nat) (hi : i < ss.length) => fine hi hp)
  have HNN := hid (fun (i : Nat) (hi : i < ss.length) => name_nf hi hp)
  have h24 := (of_p hp).1
  have hln : ss.length ≤ 24 := by omega
  have HA := hid ha
  have HS := hid hsm
  obtain ⟨j0, hj, hy0, hy1, hy2⟩ := info_parts infoElem
  obtain ⟨i0, hi0, hx0, hx1, hx2⟩ := info_parts infoAttr
  have HO0 : Hid (EOwn (w.alloc (.cells #[] 53)) w.heap.size (.slice (some ⟨w.heap.size, 0, none⟩) 0 0) (treeL (ss.take 0))) := hid ⟨fun _ => .slice none 0 0, ⟨World.ownsRow_made w #[] 0 (Nat.le_refl _) (by decide) (by simp), fun i h => by simp [treeL] at h, fun i j h => by simp [treeL] at h, fun i h => by simp [treeL] at h⟩⟩
  have HB0 : Hid (Below w.heap.size w (w.alloc (.cells #[] 53))) := hid ((Below.refl _ w).alloc (Nat.le_refl _) _)
  clear ha hsm h24 hp
  go_enter Tryz.func19, Tryz.ntmps19
  go_wp2_with fail
  go_loopw [4, 5, 6, 7, 8, 9, 10] (fun ev i s6 s7 s8 s9 s10 wr => ∃ (j : Nat), i = .int .i64 j ∧ j ≤ ss.length ∧ (∃ a7 n7 c7, ev = .slice a7 n7 c7) ∧ (∃ x6 x7 x8 x9 x10, s6 = x6 ∧ s7 = x7 ∧ s8 = x8 ∧ s9 = x9 ∧ s10 = x10) ∧ Hid (EOwn wr w.heap.size ev (treeL (ss.take j))) ∧ Hid (∀ q, q < j → long (PJ ss q) = false) ∧ Hid (Below w.heap.size w wr)) (fun _ i _ _ _ _ _ _ => ss.length - (intOf i).toNat)
  case atStart => exact ⟨0, rfl, Nat.zero_le _, ⟨_, _, _, rfl⟩, ⟨_, _, _, _, _, rfl, rfl, rfl, rfl, rfl⟩, HO0, hid (fun q h => by omega), HB0⟩
  case round =>
    obtain ⟨j, rfl, hjl, ⟨a7, n7, c7, rfl⟩, ⟨x6, x7, x8, x9, x10, rfl, rfl, rfl, rfl, rfl⟩, HO, HLG, HB⟩ := hrel
    obtain ⟨wo, hwo⟩ : ∃ wo, wo = wr := ⟨_, rfl⟩
    subst hwo
    by_cases hlt : j < ss.length
    · have q1 : (j : Int) < (ss.length : Int) := by omega
      obtain ⟨g, o, vc, ve, rfl, hg, d0, d1, d2, d3, d4, d5, hvc, hve⟩ := (HA.out.below HB.out).at hlt
      obtain ⟨a2, cap2, rfl⟩ := hvc.slice
      obtain ⟨a3, cap3, rfl⟩ := hve.slice
      have hF := HFI.out j hlt
      obtain ⟨k, hk⟩ : ∃ k : Nat, ss[j].kind = (k : Int) := ⟨ss[j].kind.toNat, by have := Ex.inR_iff.1 hF.kind; omega⟩
      have hk8 := Ex.inR_iff.1 hF.kind
      rw [hk] at hk8 d0
      have hk1 : 1 ≤ k := by omega
      have hk9 : k ≤ 8 := by omega
      have HK := hid hk
      have tg0 := tag_at (w := wo) (k := k) (by rw [← hk]; exact hF.kind)
      have tg1 := tag_at (w := wo.alloc (.cells #[.string ⟨#[]⟩, .int .i64 0, .slice none 0 0] 53)) (k := k) (by rw [← hk]; exact hF.kind)
      have tg2 : ((wo.alloc (.cells tags 9)).alloc (.cells #[.string ⟨#[]⟩, .int .i64 0, .slice none 0 0] 53)).cell? ⟨wo.heap.size, k, none⟩ = some (.string (str (wordL (k : Int)))) := (World.cell?_alloc_lt _ _ _ (by simp)).trans tg0
      rw [World.size_alloc] at tg1
      have HF := hid hF
      have HTS := hid (take_succ_tree hlt)
      have htl : (treeL (ss.take j)).length ≤ 24 := by rw [take_tree_len (ss := ss) (j := j) (by omega)]; omega
      have HPJ := hid (PJ_eq hlt)
      have HVZ := hid (val_size hF (HNN.out j hlt))
      have HED : Hid (elemD ss[j] = ⟨str (wordL ss[j].kind), ss[j].parent, attrsOf ss[j]⟩) := hid rfl
      clear hk hk8 hF
      generalize hsj : ss[j] = sj at *
      clear hsj
      have HVC := hid hvc
      have HVE := hid hve
      clear hvc hve
      go_upto_region 6 with fail
      go_cut [7] from 12 to 95 (fun s7 wx => ∃ eb, s7 = .pointer (some ⟨eb, 0, none⟩) ∧ wo.heap.size ≤ eb ∧ eb < wx.heap.size ∧ Hid (ElB wx eb (str (wordL (k : Int))) sj.parent (.slice none 0 0)) ∧ Hid (Below wo.heap.size wo wx))
      case first =>
        go_region
        all_goals
          go_wp2_with fail
          go_meet
          first
          | exact ⟨wo.heap.size + 1, rfl, Nat.le_succ _, lt_new1 _ _ _, hid (el_new1 _ _ _ _ _), hid (((Below.refl _ wo).alloc (Nat.le_refl _) _).alloc (by simp) _).drew⟩
          | exact ⟨wo.heap.size, rfl, Nat.le_refl _, lt_new0 _ _ _, hid (el_new0 _ _ _ _ _), hid (((Below.refl _ wo).alloc (Nat.le_refl _) _).alloc (by simp) _).drew⟩
      case rest =>
        obtain ⟨eb, rfl, hebW, hebB, HEL, HB2⟩ := hcut
        obtain ⟨w2, hw2⟩ : ∃ w2, w2 = wc := ⟨_, rfl⟩
        subst hw2
        have HKW : Hid (str (wordL (k : Int)) = str (wordL sj.kind)) := hid (by rw [HK.out])
        rw [HKW.out] at HEL
        clear tg0 tg1 tg2
        generalize htg : str (wordL sj.kind) = tg at *
        generalize hpr : sj.parent = pr at *
        have HTG := hid htg
        have HPR := hid hpr
        clear htg hpr HKW
        have hgeb : g ≠ eb := by omega
        have e4 := kept_cell HB2.out hg d4
        have hg2 : g < w2.heap.size := Nat.lt_of_lt_of_le hg HB2.out.size
        have HSA : Hid (∀ wx, Below wo.heap.size wo wx → SAt wx g (o + j * 6) sj (.slice a2 sj.cond.length cap2) (.slice a3 sj.expr.length cap3)) := hid (fun wx hb => ⟨kept_cell hb hg (by rw [HK.out]; exact d0), kept_cell hb hg (by rw [HPR.out]; exact d1), kept_cell hb hg d2, kept_cell hb hg d3, kept_cell hb hg d4, kept_cell hb hg d5⟩)
        obtain ⟨-, -, ec2, ef2⟩ := el_cell HEL.out
        go_upto_if 38 with fail
        go_cut [7] from 12 to 95 (fun s7 wx => s7 = .pointer (some ⟨eb, 0, none⟩) ∧ ∃ va, ElB wx eb tg pr va ∧ (∃ a n c, va = .slice a n c) ∧ Hid (wx.ownsRow w2.heap.size 68 2 va (condA sj).length (avals (condA sj))) ∧ Hid (Below wo.heap.size wo wx) ∧ w2.heap.size ≤ wx.heap.size)
        case first =>
          by_cases hq : sj.cond.length = 0
          · have HCO : Hid (condA sj = []) := hid (by unfold condA; rw [if_pos hq])
            have q2 : ¬ (0 : Int) < (sj.cond.length : Int) := by omega
            clear hq
            go_wp2_with fail
            go_meet
            exact ⟨rfl, _, HEL.out, ⟨_, _, _, rfl⟩, hid (by rw [HCO.out]; exact World.ownsRow_nil _ _ _ _), HB2, Nat.le_refl _⟩
          · have HCO : Hid (condA sj = [⟨aIf, str (textOf sj.cond)⟩]) := hid (by unfold condA; rw [if_neg hq])
            have q2 : (0 : Int) < (sj.cond.length : Int) := by omega
            have HTX := hid (fun wx (hb : Below wo.heap.size wo wx) => specETxt B sj.cond _ wx (HF.out.cond (by omega)) (HVC.out.below hb))
            clear hq
            go_wp2_with fail
            have kc0 : w2.drew.cell? ⟨g, o + j * 6 + 4, none⟩ = some (.slice a2 sj.cond.length cap2) := e4
            have hcl : g < w2.drew.heap.size := hg2
            have hel : eb < w2.drew.heap.size := hebB
            have hE0 : ElB w2.drew eb tg pr (.slice none 0 0) := HEL.out
            have HBd : Hid (Below wo.heap.size wo w2.drew) := hid HB2.out.drew
            have hWd := HBd.out
            have hWs : wo.heap.size ≤ w2.drew.heap.size := HB2.out.size
            have ec3 : w2.drew.cell? ⟨eb, 2, none⟩ = some (.slice none 0 0) := ec2
            refine wp_region_held_drew (S := fun wx => wx.cell? ⟨g, o + j * 6 + 4, none⟩ = some (.slice a2 sj.cond.length cap2)) (by kernel_rfl) kc0 (fun hHeld => ?_)
            refine wpAnyH_take (i := 0) (oi := { dst := some 39, op := Go.Op.fieldAddr 53 (Go.Operand.tmp 7) 2, type := 0, pos := "l05_form.go:57", after := #[], guard := none }) (v := .pointer (some ⟨eb, 2, none⟩)) rfl (by kernel_rfl) (by kernel_rfl) (by kernel_rfl) (fun _ _ _ h => h) (Or.inl ⟨by rfl, by intro w hSw; (try dsimp only at hSw); go_simp⟩) (by assumption) ?_
            simp only [Act.put, List.setIfInBounds_toArray, List.set_cons_zero, List.set_cons_succ]
            refine wpAnyH_take (i := 2) (oi := { dst := some 41, op := Go.Op.move (Go.Operand.tmp 6), type := 64, pos := "l05_form.go:57", after := #[], guard := none }) (v := .pointer (some ⟨g, o + j * 6, none⟩)) rfl (by kernel_rfl) (by kernel_rfl) (by kernel_rfl) (fun _ _ _ h => h) (Or.inl ⟨by rfl, by intro w hSw; (try dsimp only at hSw); go_simp⟩) (by assumption) ?_
            simp only [Act.put, List.setIfInBounds_toArray, List.set_cons_zero, List.set_cons_succ]
            refine wpAnyH_take (i := 3) (oi := { dst := some 42, op := Go.Op.nilCheck (Go.Operand.tmp 41), type := 0, pos := "l05_form.go:57", after := #[{ on := 2, ground := Go.Ground.data }], guard := none }) (v := .pointer (some ⟨g, o + j * 6, none⟩)) rfl (by kernel_rfl) (by kernel_rfl) (by kernel_rfl) (fun _ _ _ h => h) (Or.inl ⟨by rfl, by intro w hSw; (try dsimp only at hSw); go_simp⟩) (by assumption) ?_
            simp only [Act.put, List.setIfInBounds_toArray, List.set_cons_zero, List.set_cons_succ]
            refine wpAnyH_take (i := 4) (oi := { dst := some 43, op := Go.Op.fieldAddr 49 (Go.Operand.tmp 42) 4, type := 0, pos := "l05_form.go:57", after := #[{ on := 3, ground := Go.Ground.data }], guard := none }) (v := .pointer (some ⟨g, o + j * 6 + 4, none⟩)) rfl (by kernel_rfl) (by kernel_rfl) (by kernel_rfl) (fun _ _ _ h => h) (Or.inl ⟨by rfl, by intro w hSw; (try dsimp only at hSw); go_simp⟩) (by assumption) ?_
            simp only [Act.put, List.setIfInBounds_toArray, List.set_cons_zero, List.set_cons_succ]
            refine wpAnyH_take (i := 5) (oi := { dst := some 44, op := Go.Op.load 47 (Go.Operand.tmp 43), type := 47, pos := "l05_form.go:57", after := #[{ on := 4, ground := Go.Ground.data }], guard := none }) (v := .slice a2 sj.cond.length cap2) rfl (by kernel_rfl) (by kernel_rfl) (by kernel_rfl) (fun _ _ _ h => h) (Or.inl ⟨by rfl, by intro w hSw; (try dsimp only at hSw); go_simp⟩) (by assumption) ?_
            simp only [Act.put, List.setIfInBounds_toArray, List.set_cons_zero, List.set_cons_succ]
            refine wpAnyH_ready (rs := [1, 6]) (by kernel_rfl) (by simp) ?_
            refine (AllReadyH.cons (o := { dst := some 40, op := Go.Op.load 51 (Go.Operand.tmp 39), type := 51, pos := "l05_form.go:57", after := #[{ on := 0, ground := Go.Ground.data }], guard := none }) rfl (fun K hK => ?_) (AllReadyH.cons (o := { dst := some 45, op := Go.Op.call { callee := Go.Callee.value (Go.Operand.func 37), args := #[Go.Operand.tmp 44], argTypes := #[47] }, type := 9, pos := "l05_form.go:57", after := #[{ on := 5, ground := Go.Ground.data }], guard := none }) rfl (fun K hK => ?_) AllReadyH.nil))
            · go_simp
              refine hK.out _ _ kc0 (fun hHeld => ?_)
              clear hK K
              try simp only [Act.put, List.setIfInBounds_toArray, List.set_cons_zero, List.set_cons_succ]
              refine wpAnyH_ready (rs := [6]) (by kernel_rfl) (by simp) ?_
              refine (AllReadyH.cons (o := { dst := some 45, op := Go.Op.call { callee := Go.Callee.value (Go.Operand.func 37), args := #[Go.Operand.tmp 44], argTypes := #[47] }, type := 9, pos := "l05_form.go:57", after := #[{ on := 5, ground := Go.Ground.data }], guard := none }) rfl (fun K hK => ?_) AllReadyH.nil)
              go_simp
              go_at_call 37
              refine (HTX.out _ hWd).mono ?_
              rintro e w3 ⟨rfl, hb3⟩
              have kc1 := kept_cell hb3 hcl kc0
              have mt : ElB w3 eb tg pr (.slice none 0 0) := kept_heap hb3 hel hE0
              obtain ⟨-, -, m2, mf⟩ := el_cell mt
              have HB3 := hid (HBd.out.trans (hb3.mono hWs))
              have l3 : w2.heap.size ≤ w3.heap.size := hb3.size
              clear hb3
              go_wp2_with fail
              refine hK.out _ _ kc1 (fun hHeld => ?_)
              clear hK K
              try simp only [Act.put, List.setIfInBounds_toArray, List.set_cons_zero, List.set_cons_succ]
              refine wpAnyH_take (i := 7) (oi := { dst := some 46, op := Go.Op.build 68 #[(0, Go.Operand.const (Go.Value.string { data := #[105, 102] })), (1, Go.Operand.tmp 45)], type := 68, pos := "l05_form.go:57", after := #[{ on := 6, ground := Go.Ground.data }], guard := none }) (v := .agg #[.string ⟨#[105, 102]⟩, .string (str (textOf sj.cond))]) rfl (by kernel_rfl) (by kernel_rfl) (by kernel_rfl) (fun _ _ _ h => h) (Or.inl ⟨by rfl, by intro w hSw; (try dsimp only at hSw); go_simp⟩) (by assumption) ?_
              simp only [Act.put, List.setIfInBounds_toArray, List.set_cons_zero, List.set_cons_succ]
              refine wpAnyH_ready (rs := [8]) (by kernel_rfl) (by simp) ?_
              refine (AllReadyH.cons (o := { dst := some 47, op := Go.Op.buildSlice 51 1 #[(0, Go.Operand.tmp 46)], type := 51, pos := "l05_form.go:57", after := #[{ on := 7, ground := Go.Ground.data }], guard := none }) rfl (fun K hK => ?_) AllReadyH.nil)
              go_simp
              have hx4 : Below w3.heap.size w3 (w3.alloc (.cells #[.string ⟨#[105, 102]⟩, .string (str (textOf sj.cond))] 68)) := (Below.refl _ w3).alloc (Nat.le_refl _) _
              have kc2 := kept_cell hx4 (Nat.lt_of_lt_of_le hcl l3) kc1
              have pt : ElB (w3.alloc (.cells #[.string ⟨#[105, 102]⟩, .string (str (textOf sj.cond))] 68)) eb tg pr (.slice none 0 0) := kept_heap hx4 (Nat.lt_of_lt_of_le hel l3) mt
              obtain ⟨-, -, p2, pf⟩ := el_cell pt
              refine hK.out _ _ kc2 (fun hHeld => ?_)
              clear hK K
              try simp only [Act.put, List.setIfInBounds_toArray, List.set_cons_zero, List.set_cons_succ]
              refine wpAnyH_ready (rs := [9]) (by kernel_rfl) (by simp) ?_
              refine (AllReadyH.cons (o := { dst := some 48, op := Go.Op.call { callee := Go.Callee.builtin Go.Builtin.append, args := #[Go.Operand.tmp 40, Go.Operand.tmp 47], argTypes := #[51, 51] }, type := 51, pos := "l05_form.go:57", after := #[{ on := 1, ground := Go.Ground.data }, { on := 8, ground := Go.Ground.data }, { on := 6, ground := Go.Ground.chain }], guard := none }) rfl (fun K hK => ?_) AllReadyH.nil)
              refine step_append_lies _ (by rfl) _ _ _ (by rfl) w2.heap.size 68 i0 _ 2 32 Tryz.underlying51 hi0 hx0 hx1 hx2 rfl (by omega) (.slice none 0 0) 0 [] (by rfl) (World.ownsRow_nil _ _ _ _) ⟨w3.heap.size, 0, none⟩ 1 1 [.string ⟨#[105, 102]⟩, .string (str (textOf sj.cond))] (by rfl) (by rfl) (news #[.string ⟨#[105, 102]⟩, .string (str (textOf sj.cond))] _ _ rfl) (by simp [Value.oneCell']) (by omega) (by unfold maxLen; omega) (by omega) (by simp; omega) (w3.heap.size + 1) (by simp) ?_
              intro gg cp w5 hown5 hgrow5 hat5 hlt5
              have nnb : ∀ b, (Value.slice none 0 0).ownBlock = some b → wo.heap.size ≤ b := fun b e => by cases e
              have nnc : (Value.slice none 0 0).ownBlock ≠ some g := fun e => by cases e
              have nne : (Value.slice none 0 0).ownBlock ≠ some eb := fun e => by cases e
              have kc3 := grown_cell2 hgrow5 kc2 nnc
              have rt : ElB w5 eb tg pr (.slice none 0 0) := (hgrow5.block eb (by simp; omega) (Ne.symm nne)).trans pt
              obtain ⟨-, -, r2, rf⟩ := el_cell rt
              have HB5 := hid ((HB3.out.alloc (by omega) (.cells #[.string ⟨#[105, 102]⟩, .string (str (textOf sj.cond))] 68)).grown hgrow5 (by simp; omega) (fun b e => nnb b e))
              have HO5 := hid hown5
              have l5 : w3.heap.size < w5.heap.size := by have := hgrow5.size; simp at this; omega
              clear hown5 hgrow5 hat5
              refine hK.out _ _ kc3 (fun hHeld => ?_)
              clear hK K
              try simp only [Act.put, List.setIfInBounds_toArray, List.set_cons_zero, List.set_cons_succ]
              refine wpAnyH_take (i := 10) (oi := { dst := some 49, op := Go.Op.fieldAddr 53 (Go.Operand.tmp 7) 2, type := 0, pos := "l05_form.go:57", after := #[{ on := 0, ground := Go.Ground.phase }, { on := 1, ground := Go.Ground.phase }, { on := 2, ground := Go.Ground.phase }, { on := 3, ground := Go.Ground.phase }, { on := 4, ground := Go.Ground.phase }, { on := 5, ground := Go.Ground.phase }, { on := 6, ground := Go.Ground.phase }, { on := 7, ground := Go.Ground.phase }, { on := 8, ground := Go.Ground.phase }, { on := 9, ground := Go.Ground.phase }], guard := none }) (v := .pointer (some ⟨eb, 2, none⟩)) rfl (by kernel_rfl) (by kernel_rfl) (by kernel_rfl) (fun _ _ _ h => h) (Or.inl ⟨by rfl, by intro w hSw; (try dsimp only at hSw); go_simp⟩) (by assumption) ?_
              simp only [Act.put, List.setIfInBounds_toArray, List.set_cons_zero, List.set_cons_succ]
              refine wpAnyH_ready (rs := [11]) (by kernel_rfl) (by simp) ?_
              refine (AllReadyH.cons (o := { dst := none, op := Go.Op.store 51 (Go.Operand.tmp 49) (Go.Operand.tmp 48), type := 0, pos := "l05_form.go:57", after := #[{ on := 10, ground := Go.Ground.data }, { on := 9, ground := Go.Ground.data }, { on := 9, ground := Go.Ground.chain }, { on := 0, ground := Go.Ground.phase }, { on := 1, ground := Go.Ground.phase }, { on := 2, ground := Go.Ground.phase }, { on := 3, ground := Go.Ground.phase }, { on := 4, ground := Go.Ground.phase }, { on := 5, ground := Go.Ground.phase }, { on := 6, ground := Go.Ground.phase }, { on := 7, ground := Go.Ground.phase }, { on := 8, ground := Go.Ground.phase }, { on := 9, ground := Go.Ground.phase }], guard := none }) rfl (fun K hK => ?_) AllReadyH.nil)
              go_simp
              have kc4 := set_cell2 (c := 2) (u := .slice (some ⟨gg, 0, none⟩) (0 + 1) cp) hgeb kc3
              refine hK.out _ _ kc4 (fun hHeld => ?_)
              clear hK K
              try simp only [Act.put, List.setIfInBounds_toArray, List.set_cons_zero, List.set_cons_succ]
              refine wpAnyH_done (by kernel_rfl) ?_ _
              go_wp2_with fail
              go_meet
              exact ⟨rfl, _, set_el rt, ⟨_, _, _, rfl⟩, hid (by rw [HCO.out]; exact ownsRow_setCell_below HO5.out (a := ⟨eb, 2, none⟩) hebB _), hid (HB5.out.setCell (p := ⟨eb, 2, none⟩) hebW _), by simp [World.setCell]; have l3p : w2.heap.size ≤ w3.heap.size := l3; omega⟩
            · go_simp
              go_at_call 37
              refine (HTX.out _ hWd).mono ?_
              rintro e w3 ⟨rfl, hb3⟩
              have kc1 := kept_cell hb3 hcl kc0
              have mt : ElB w3 eb tg pr (.slice none 0 0) := kept_heap hb3 hel hE0
              obtain ⟨-, -, m2, mf⟩ := el_cell mt
              have HB3 := hid (HBd.out.trans (hb3.mono hWs))
              have l3 : w2.heap.size ≤ w3.heap.size := hb3.size
              clear hb3
              go_wp2_with fail
              refine hK.out _ _ kc1 (fun hHeld => ?_)
              clear hK K
              try simp only [Act.put, List.setIfInBounds_toArray, List.set_cons_zero, List.set_cons_succ]
              refine wpAnyH_take (i := 7) (oi := { dst := some 46, op := Go.Op.build 68 #[(0, Go.Operand.const (Go.Value.string { data := #[105, 102] })), (1, Go.Operand.tmp 45)], type := 68, pos := "l05_form.go:57", after := #[{ on := 6, ground := Go.Ground.data }], guard := none }) (v := .agg #[.string ⟨#[105, 102]⟩, .string (str (textOf sj.cond))]) rfl (by kernel_rfl) (by kernel_rfl) (by kernel_rfl) (fun _ _ _ h => h) (Or.inl ⟨by rfl, by intro w hSw; (try dsimp only at hSw); go_simp⟩) (by assumption) ?_
              simp only [Act.put, List.setIfInBounds_toArray, List.set_cons_zero, List.set_cons_succ]
              refine wpAnyH_ready (rs := [1, 8]) (by kernel_rfl) (by simp) ?_
              refine (AllReadyH.cons (o := { dst := some 40, op := Go.Op.load 51 (Go.Operand.tmp 39), type := 51, pos := "l05_form.go:57", after := #[{ on := 0, ground := Go.Ground.data }], guard := none }) rfl (fun K hK => ?_) (AllReadyH.cons (o := { dst := some 47, op := Go.Op.buildSlice 51 1 #[(0, Go.Operand.tmp 46)], type := 51, pos := "l05_form.go:57", after := #[{ on := 7, ground := Go.Ground.data }], guard := none }) rfl (fun K hK => ?_) AllReadyH.nil))
              · go_simp
                refine hK.out _ _ kc1 (fun hHeld => ?_)
                clear hK K
                try simp only [Act.put, List.setIfInBounds_toArray, List.set_cons_zero, List.set_cons_succ]
                refine wpAnyH_ready (rs := [8]) (by kernel_rfl) (by simp) ?_
                refine (AllReadyH.cons (o := { dst := some 47, op := Go.Op.buildSlice 51 1 #[(0, Go.Operand.tmp 46)], type := 51, pos := "l05_form.go:57", after := #[{ on := 7, ground := Go.Ground.data }], guard := none }) rfl (fun K hK => ?_) AllReadyH.nil)
                go_simp
                have hx4 : Below w3.heap.size w3 (w3.alloc (.cells #[.string ⟨#[105, 102]⟩, .string (str (textOf sj.cond))] 68)) := (Below.refl _ w3).alloc (Nat.le_refl _) _
                have kc2 := kept_cell hx4 (Nat.lt_of_lt_of_le hcl l3) kc1
                have pt : ElB (w3.alloc (.cells #[.string ⟨#[105, 102]⟩, .string (str (textOf sj.cond))] 68)) eb tg pr (.slice none 0 0) := kept_heap hx4 (Nat.lt_of_lt_of_le hel l3) mt
                obtain ⟨-, -, p2, pf⟩ := el_cell pt
                refine hK.out _ _ kc2 (fun hHeld => ?_)
                clear hK K
                try simp only [Act.put, List.setIfInBounds_toArray, List.set_cons_zero, List.set_cons_succ]
                refine wpAnyH_ready (rs := [9]) (by kernel_rfl) (by simp) ?_
                refine (AllReadyH.cons (o := { dst := some 48, op := Go.Op.call { callee := Go.Callee.builtin Go.Builtin.append, args := #[Go.Operand.tmp 40, Go.Operand.tmp 47], argTypes := #[51, 51] }, type := 51, pos := "l05_form.go:57", after := #[{ on := 1, ground := Go.Ground.data }, { on := 8, ground := Go.Ground.data }, { on := 6, ground := Go.Ground.chain }], guard := none }) rfl (fun K hK => ?_) AllReadyH.nil)
                refine step_append_lies _ (by rfl) _ _ _ (by rfl) w2.heap.size 68 i0 _ 2 32 Tryz.underlying51 hi0 hx0 hx1 hx2 rfl (by omega) (.slice none 0 0) 0 [] (by rfl) (World.ownsRow_nil _ _ _ _) ⟨w3.heap.size, 0, none⟩ 1 1 [.string ⟨#[105, 102]⟩, .string (str (textOf sj.cond))] (by rfl) (by rfl) (news #[.string ⟨#[105, 102]⟩, .string (str (textOf sj.cond))] _ _ rfl) (by simp [Value.oneCell']) (by omega) (by unfold maxLen; omega) (by omega) (by simp; omega) (w3.heap.size + 1) (by simp) ?_
                intro gg cp w5 hown5 hgrow5 hat5 hlt5
                have nnb : ∀ b, (Value.slice none 0 0).ownBlock = some b → wo.heap.size ≤ b := fun b e => by cases e
                have nnc : (Value.slice none 0 0).ownBlock ≠ some g := fun e => by cases e
                have nne : (Value.slice none 0 0).ownBlock ≠ some eb := fun e => by cases e
                have kc3 := grown_cell2 hgrow5 kc2 nnc
                have rt : ElB w5 eb tg pr (.slice none 0 0) := (hgrow5.block eb (by simp; omega) (Ne.symm nne)).trans pt
                obtain ⟨-, -, r2, rf⟩ := el_cell rt
                have HB5 := hid ((HB3.out.alloc (by omega) (.cells #[.string ⟨#[105, 102]⟩, .string (str (textOf sj.cond))] 68)).grown hgrow5 (by simp; omega) (fun b e => nnb b e))
                have HO5 := hid hown5
                have l5 : w3.heap.size < w5.heap.size := by have := hgrow5.size; simp at this; omega
                clear hown5 hgrow5 hat5
                refine hK.out _ _ kc3 (fun hHeld => ?_)
                clear hK K
                try simp only [Act.put, List.setIfInBounds_toArray, List.set_cons_zero, List.set_cons_succ]
                refine wpAnyH_take (i := 10) (oi := { dst := some 49, op := Go.Op.fieldAddr 53 (Go.Operand.tmp 7) 2, type := 0, pos := "l05_form.go:57", after := #[{ on := 0, ground := Go.Ground.phase }, { on := 1, ground := Go.Ground.phase }, { on := 2, ground := Go.Ground.phase }, { on := 3, ground := Go.Ground.phase }, { on := 4, ground := Go.Ground.phase }, { on := 5, ground := Go.Ground.phase }, { on := 6, ground := Go.Ground.phase }, { on := 7, ground := Go.Ground.phase }, { on := 8, ground := Go.Ground.phase }, { on := 9, ground := Go.Ground.phase }], guard := none }) (v := .pointer (some ⟨eb, 2, none⟩)) rfl (by kernel_rfl) (by kernel_rfl) (by kernel_rfl) (fun _ _ _ h => h) (Or.inl ⟨by rfl, by intro w hSw; (try dsimp only at hSw); go_simp⟩) (by assumption) ?_
                simp only [Act.put, List.setIfInBounds_toArray, List.set_cons_zero, List.set_cons_succ]
                refine wpAnyH_ready (rs := [11]) (by kernel_rfl) (by simp) ?_
                refine (AllReadyH.cons (o := { dst := none, op := Go.Op.store 51 (Go.Operand.tmp 49) (Go.Operand.tmp 48), type := 0, pos := "l05_form.go:57", after := #[{ on := 10, ground := Go.Ground.data }, { on := 9, ground := Go.Ground.data }, { on := 9, ground := Go.Ground.chain }, { on := 0, ground := Go.Ground.phase }, { on := 1, ground := Go.Ground.phase }, { on := 2, ground := Go.Ground.phase }, { on := 3, ground := Go.Ground.phase }, { on := 4, ground := Go.Ground.phase }, { on := 5, ground := Go.Ground.phase }, { on := 6, ground := Go.Ground.phase }, { on := 7, ground := Go.Ground.phase }, { on := 8, ground := Go.Ground.phase }, { on := 9, ground := Go.Ground.phase }], guard := none }) rfl (fun K hK => ?_) AllReadyH.nil)
                go_simp
                have kc4 := set_cell2 (c := 2) (u := .slice (some ⟨gg, 0, none⟩) (0 + 1) cp) hgeb kc3
                refine hK.out _ _ kc4 (fun hHeld => ?_)
                clear hK K
                try simp only [Act.put, List.setIfInBounds_toArray, List.set_cons_zero, List.set_cons_succ]
                refine wpAnyH_done (by kernel_rfl) ?_ _
                go_wp2_with fail
                go_meet
                exact ⟨rfl, _, set_el rt, ⟨_, _, _, rfl⟩, hid (by rw [HCO.out]; exact ownsRow_setCell_below HO5.out (a := ⟨eb, 2, none⟩) hebB _), hid (HB5.out.setCell (p := ⟨eb, 2, none⟩) hebW _), by simp [World.setCell]; have l3p : w2.heap.size ≤ w3.heap.size := l3; omega⟩
              · go_simp
                have hx4 : Below w3.heap.size w3 (w3.alloc (.cells #[.string ⟨#[105, 102]⟩, .string (str (textOf sj.cond))] 68)) := (Below.refl _ w3).alloc (Nat.le_refl _) _
                have kc2 := kept_cell hx4 (Nat.lt_of_lt_of_le hcl l3) kc1
                have pt : ElB (w3.alloc (.cells #[.string ⟨#[105, 102]⟩, .string (str (textOf sj.cond))] 68)) eb tg pr (.slice none 0 0) := kept_heap hx4 (Nat.lt_of_lt_of_le hel l3) mt
                obtain ⟨-, -, p2, pf⟩ := el_cell pt
                refine hK.out _ _ kc2 (fun hHeld => ?_)
                clear hK K
                try simp only [Act.put, List.setIfInBounds_toArray, List.set_cons_zero, List.set_cons_succ]
                refine wpAnyH_ready (rs := [1]) (by kernel_rfl) (by simp) ?_
                refine (AllReadyH.cons (o := { dst := some 40, op := Go.Op.load 51 (Go.Operand.tmp 39), type := 51, pos := "l05_form.go:57", after := #[{ on := 0, ground := Go.Ground.data }], guard := none }) rfl (fun K hK => ?_) AllReadyH.nil)
                go_simp
                refine hK.out _ _ kc2 (fun hHeld => ?_)
                clear hK K
                try simp only [Act.put, List.setIfInBounds_toArray, List.set_cons_zero, List.set_cons_succ]
                refine wpAnyH_ready (rs := [9]) (by kernel_rfl) (by simp) ?_
                refine (AllReadyH.cons (o := { dst := some 48, op := Go.Op.call { callee := Go.Callee.builtin Go.Builtin.append, args := #[Go.Operand.tmp 40, Go.Operand.tmp 47], argTypes := #[51, 51] }, type := 51, pos := "l05_form.go:57", after := #[{ on := 1, ground := Go.Ground.data }, { on := 8, ground := Go.Ground.data }, { on := 6, ground := Go.Ground.chain }], guard := none }) rfl (fun K hK => ?_) AllReadyH.nil)
                refine step_append_lies _ (by rfl) _ _ _ (by rfl) w2.heap.size 68 i0 _ 2 32 Tryz.underlying51 hi0 hx0 hx1 hx2 rfl (by omega) (.slice none 0 0) 0 [] (by rfl) (World.ownsRow_nil _ _ _ _) ⟨w3.heap.size, 0, none⟩ 1 1 [.string ⟨#[105, 102]⟩, .string (str (textOf sj.cond))] (by rfl) (by rfl) (news #[.string ⟨#[105, 102]⟩, .string (str (textOf sj.cond))] _ _ rfl) (by simp [Value.oneCell']) (by omega) (by unfold maxLen; omega) (by omega) (by simp; omega) (w3.heap.size + 1) (by simp) ?_
                intro gg cp w5 hown5 hgrow5 hat5 hlt5
                have nnb : ∀ b, (Value.slice none 0 0).ownBlock = some b → wo.heap.size ≤ b := fun b e => by cases e
                have nnc : (Value.slice none 0 0).ownBlock ≠ some g := fun e => by cases e
                have nne : (Value.slice none 0 0).ownBlock ≠ some eb := fun e => by cases e
                have kc3 := grown_cell2 hgrow5 kc2 nnc
                have rt : ElB w5 eb tg pr (.slice none 0 0) := (hgrow5.block eb (by simp; omega) (Ne.symm nne)).trans pt
                obtain ⟨-, -, r2, rf⟩ := el_cell rt
                have HB5 := hid ((HB3.out.alloc (by omega) (.cells #[.string ⟨#[105, 102]⟩, .string (str (textOf sj.cond))] 68)).grown hgrow5 (by simp; omega) (fun b e => nnb b e))
                have HO5 := hid hown5
                have l5 : w3.heap.size < w5.heap.size := by have := hgrow5.size; simp at this; omega
                clear hown5 hgrow5 hat5
                refine hK.out _ _ kc3 (fun hHeld => ?_)
                clear hK K
                try simp only [Act.put, List.setIfInBounds_toArray, List.set_cons_zero, List.set_cons_succ]
                refine wpAnyH_take (i := 10) (oi := { dst := some 49, op := Go.Op.fieldAddr 53 (Go.Operand.tmp 7) 2, type := 0, pos := "l05_form.go:57", after := #[{ on := 0, ground := Go.Ground.phase }, { on := 1, ground := Go.Ground.phase }, { on := 2, ground := Go.Ground.phase }, { on := 3, ground := Go.Ground.phase }, { on := 4, ground := Go.Ground.phase }, { on := 5, ground := Go.Ground.phase }, { on := 6, ground := Go.Ground.phase }, { on := 7, ground := Go.Ground.phase }, { on := 8, ground := Go.Ground.phase }, { on := 9, ground := Go.Ground.phase }], guard := none }) (v := .pointer (some ⟨eb, 2, none⟩)) rfl (by kernel_rfl) (by kernel_rfl) (by kernel_rfl) (fun _ _ _ h => h) (Or.inl ⟨by rfl, by intro w hSw; (try dsimp only at hSw); go_simp⟩) (by assumption) ?_
                simp only [Act.put, List.setIfInBounds_toArray, List.set_cons_zero, List.set_cons_succ]
                refine wpAnyH_ready (rs := [11]) (by kernel_rfl) (by simp) ?_
                refine (AllReadyH.cons (o := { dst := none, op := Go.Op.store 51 (Go.Operand.tmp 49) (Go.Operand.tmp 48), type := 0, pos := "l05_form.go:57", after := #[{ on := 10, ground := Go.Ground.data }, { on := 9, ground := Go.Ground.data }, { on := 9, ground := Go.Ground.chain }, { on := 0, ground := Go.Ground.phase }, { on := 1, ground := Go.Ground.phase }, { on := 2, ground := Go.Ground.phase }, { on := 3, ground := Go.Ground.phase }, { on := 4, ground := Go.Ground.phase }, { on := 5, ground := Go.Ground.phase }, { on := 6, ground := Go.Ground.phase }, { on := 7, ground := Go.Ground.phase }, { on := 8, ground := Go.Ground.phase }, { on := 9, ground := Go.Ground.phase }], guard := none }) rfl (fun K hK => ?_) AllReadyH.nil)
                go_simp
                have kc4 := set_cell2 (c := 2) (u := .slice (some ⟨gg, 0, none⟩) (0 + 1) cp) hgeb kc3
                refine hK.out _ _ kc4 (fun hHeld => ?_)
                clear hK K
                try simp only [Act.put, List.setIfInBounds_toArray, List.set_cons_zero, List.set_cons_succ]
                refine wpAnyH_done (by kernel_rfl) ?_ _
                go_wp2_with fail
                go_meet
                exact ⟨rfl, _, set_el rt, ⟨_, _, _, rfl⟩, hid (by rw [HCO.out]; exact ownsRow_setCell_below HO5.out (a := ⟨eb, 2, none⟩) hebB _), hid (HB5.out.setCell (p := ⟨eb, 2, none⟩) hebW _), by simp [World.setCell]; have l3p : w2.heap.size ≤ w3.heap.size := l3; omega⟩
        case rest =>
          obtain ⟨rfl, va, hEB, ⟨a8', n8', c8', rfl⟩, HOB, HBB, lB2⟩ := hcut
          obtain ⟨wB, hwB⟩ : ∃ wB, wB = wc := ⟨_, rfl⟩
          subst hwB
          have HEB := hid hEB
          have hebB2 : eb < wB.heap.size := el_lt hEB
          have f0 := kept_cell HBB.out hg d0
          have HNM := hid (specNames sj wB HF.out.kind)
          rw [HK.out] at HNM
          clear hEB HEL ec2 ef2 HB2 e4 hg2
          go_wp2_with fail
          refine HNM.out.mono ?_
          rintro e w4 ⟨v4, rfl, hss, hb4⟩
          obtain ⟨a6, c6, rfl⟩ := hss.slice
          have HE4 : Hid (ElB w4 eb tg pr (.slice a8' n8' c8')) := hid (kept_heap hb4 hebB2 HEB.out)
          have HO4 : Hid (w4.ownsRow w2.heap.size 68 2 (.slice a8' n8' c8') (condA sj ++ (kindA sj).take 0).length (avals (condA sj ++ (kindA sj).take 0))) := hid (by
            rw [List.take_zero, List.append_nil]
            exact Nst.own_kept HOB.out (fun b hb => hb4.block b (Nst.own_lt HOB.out hb).2))
          have HW4 : Hid (∀ b, own (.slice a8' n8' c8') b → b < wB.heap.size ∨ w4.heap.size ≤ b) := hid (fun b hb => .inl (Nst.own_lt HOB.out hb).2)
          have HS4 := hid hss
          have HB4 := hid (HBB.out.trans (hb4.mono HBB.out.size))
          have l4 := hb4.size
          have hnl : (namesL sj).length = (kindA sj).length := by unfold namesL; rw [List.length_map]
          have HNL := hid hnl
          have hkl : (namesL sj).length ≤ 3 := by rw [hnl]; have := attrs_len sj; unfold attrsOf at this; rw [List.length_append] at this; omega
          clear hss hb4 HNM HOB HBB hnl HEB f0
          go_wp2_with fail
          go_loopw [9] (fun i9 wq => ∃ (m : Nat), i9 = .int .i64 m ∧ m ≤ (namesL sj).length ∧ ∃ va, ElB wq eb tg pr va ∧ (∃ a n c, va = .slice a n c) ∧ Hid (wq.ownsRow w2.heap.size 68 2 va (condA sj ++ (kindA sj).take m).length (avals (condA sj ++ (kindA sj).take m))) ∧ Hid (∀ b, own va b → b < wB.heap.size ∨ w4.heap.size ≤ b) ∧ Hid (SsAt wq wB.heap.size w4.heap.size (.slice a6 (namesL sj).length c6) (namesL sj)) ∧ Hid (Below wo.heap.size wo wq) ∧ w4.heap.size ≤ wq.heap.size) (fun i9 _ => (namesL sj).length - (intOf i9).toNat)
          case atStart => exact ⟨0, rfl, Nat.zero_le _, _, HE4.out, ⟨_, _, _, rfl⟩, HO4, HW4, HS4, HB4, Nat.le_refl _⟩
          case round =>
            obtain ⟨m, rfl, hml, va, hEQ, ⟨a8, n8, c8, rfl⟩, HOR, HWR, HSR, HBR, l7⟩ := hrel
            by_cases hlt2 : m < (namesL sj).length
            · have q3 : (m : Int) < ((namesL sj).length : Int) := by omega
              obtain ⟨hmk, hne⟩ := names_at sj hlt2
              obtain ⟨g6, o6, rfl, hg6a, hg6b, hcn⟩ := HSR.out.at hlt2
              rw [hne] at hcn
              have HTX := hid (fun wx (hb : Below wo.heap.size wo wx) => sattrKind B sj g (o + j * 6) _ _ wx HF.out (HSA.out wx hb) (HVC.out.below hb) (HVE.out.below hb) m hmk)
              have HTA := hid (take_succ_kind hmk)
              have hct := cond_take_len (s := sj) (j := m) (by have := HNL.out; omega)
              have hn8 : n8 = (condA sj ++ (kindA sj).take m).length := by
                obtain ⟨a', c', e'⟩ := Nst.own_slice HOR.out
                cases e'; rfl
              subst hn8
              generalize (kindA sj)[m] = ak at *
              generalize hL : condA sj ++ (kindA sj).take m = L at *
              clear hne hL
              go_wp2_with fail
              have kc0 : wr.drew.cell? ⟨g6, o6 + m, none⟩ = some (.string ak.name) := hcn
              have hcl : g6 < wr.drew.heap.size := by show g6 < wr.heap.size; omega
              have hel : eb < wr.drew.heap.size := el_lt hEQ
              have hE0 : ElB wr.drew eb tg pr (.slice a8 L.length c8) := hEQ
              have HBd : Hid (Below wo.heap.size wo wr.drew) := hid HBR.out.drew
              have hWd := HBd.out
              have hWs : wo.heap.size ≤ wr.drew.heap.size := HBR.out.size
              obtain ⟨-, -, ec3, -⟩ := el_cell hE0
              have hDd : Below wr.heap.size wr wr.drew := (Below.refl _ wr).drew
              have hg6e : g6 ≠ eb := by omega
              refine wp_region_held_drew (S := fun wx => wx.cell? ⟨g6, o6 + m, none⟩ = some (.string ak.name)) (by kernel_rfl) kc0 (fun hHeld => ?_)
              refine wpAnyH_take (i := 0) (oi := { dst := some 61, op := Go.Op.fieldAddr 53 (Go.Operand.tmp 7) 2, type := 0, pos := "l05_form.go:61", after := #[], guard := none }) (v := .pointer (some ⟨eb, 2, none⟩)) rfl (by kernel_rfl) (by kernel_rfl) (by kernel_rfl) (fun _ _ _ h => h) (Or.inl ⟨by rfl, by intro w hSw; (try dsimp only at hSw); go_simp⟩) (by assumption) ?_
              simp only [Act.put, List.setIfInBounds_toArray, List.set_cons_zero, List.set_cons_succ]
              refine wpAnyH_take (i := 2) (oi := { dst := some 63, op := Go.Op.move (Go.Operand.tmp 8), type := 65, pos := "l05_form.go:61", after := #[], guard := none }) (v := .slice (some ⟨g6, o6, none⟩) (namesL sj).length c6) rfl (by kernel_rfl) (by kernel_rfl) (by kernel_rfl) (fun _ _ _ h => h) (Or.inl ⟨by rfl, by intro w hSw; (try dsimp only at hSw); go_simp⟩) (by assumption) ?_
              simp only [Act.put, List.setIfInBounds_toArray, List.set_cons_zero, List.set_cons_succ]
              refine wpAnyH_take (i := 3) (oi := { dst := some 64, op := Go.Op.move (Go.Operand.tmp 9), type := 3, pos := "l05_form.go:61", after := #[], guard := none }) (v := .int .i64 (m : Int)) rfl (by kernel_rfl) (by kernel_rfl) (by kernel_rfl) (fun _ _ _ h => h) (Or.inl ⟨by rfl, by intro w hSw; (try dsimp only at hSw); go_simp⟩) (by assumption) ?_
              simp only [Act.put, List.setIfInBounds_toArray, List.set_cons_zero, List.set_cons_succ]
              refine wpAnyH_take (i := 4) (oi := { dst := some 65, op := Go.Op.indexAddr 65 (Go.Operand.tmp 63) (Go.Operand.tmp 64), type := 0, pos := "l05_form.go:61", after := #[{ on := 2, ground := Go.Ground.data }, { on := 3, ground := Go.Ground.data }], guard := none }) (v := .pointer (some ⟨g6, o6 + m, none⟩)) rfl (by kernel_rfl) (by kernel_rfl) (by kernel_rfl) (fun _ _ _ h => h) (Or.inl ⟨by rfl, by intro w hSw; (try dsimp only at hSw); go_simp⟩) (by assumption) ?_
              simp only [Act.put, List.setIfInBounds_toArray, List.set_cons_zero, List.set_cons_succ]
              refine wpAnyH_take (i := 5) (oi := { dst := some 66, op := Go.Op.load 9 (Go.Operand.tmp 65), type := 9, pos := "l05_form.go:61", after := #[{ on := 4, ground := Go.Ground.data }], guard := none }) (v := .string ak.name) rfl (by kernel_rfl) (by kernel_rfl) (by kernel_rfl) (fun _ _ _ h => h) (Or.inl ⟨by rfl, by intro w hSw; (try dsimp only at hSw); go_simp⟩) (by assumption) ?_
              simp only [Act.put, List.setIfInBounds_toArray, List.set_cons_zero, List.set_cons_succ]
              refine wpAnyH_take (i := 6) (oi := { dst := some 67, op := Go.Op.move (Go.Operand.tmp 6), type := 64, pos := "l05_form.go:61", after := #[], guard := none }) (v := .pointer (some ⟨g, o + j * 6, none⟩)) rfl (by kernel_rfl) (by kernel_rfl) (by kernel_rfl) (fun _ _ _ h => h) (Or.inl ⟨by rfl, by intro w hSw; (try dsimp only at hSw); go_simp⟩) (by assumption) ?_
              simp only [Act.put, List.setIfInBounds_toArray, List.set_cons_zero, List.set_cons_succ]
              refine wpAnyH_take (i := 7) (oi := { dst := some 68, op := Go.Op.move (Go.Operand.tmp 8), type := 65, pos := "l05_form.go:61", after := #[], guard := none }) (v := .slice (some ⟨g6, o6, none⟩) (namesL sj).length c6) rfl (by kernel_rfl) (by kernel_rfl) (by kernel_rfl) (fun _ _ _ h => h) (Or.inl ⟨by rfl, by intro w hSw; (try dsimp only at hSw); go_simp⟩) (by assumption) ?_
              simp only [Act.put, List.setIfInBounds_toArray, List.set_cons_zero, List.set_cons_succ]
              refine wpAnyH_take (i := 8) (oi := { dst := some 69, op := Go.Op.move (Go.Operand.tmp 9), type := 3, pos := "l05_form.go:61", after := #[], guard := none }) (v := .int .i64 (m : Int)) rfl (by kernel_rfl) (by kernel_rfl) (by kernel_rfl) (fun _ _ _ h => h) (Or.inl ⟨by rfl, by intro w hSw; (try dsimp only at hSw); go_simp⟩) (by assumption) ?_
              simp only [Act.put, List.setIfInBounds_toArray, List.set_cons_zero, List.set_cons_succ]
              refine wpAnyH_take (i := 9) (oi := { dst := some 70, op := Go.Op.indexAddr 65 (Go.Operand.tmp 68) (Go.Operand.tmp 69), type := 0, pos := "l05_form.go:61", after := #[{ on := 7, ground := Go.Ground.data }, { on := 8, ground := Go.Ground.data }], guard := none }) (v := .pointer (some ⟨g6, o6 + m, none⟩)) rfl (by kernel_rfl) (by kernel_rfl) (by kernel_rfl) (fun _ _ _ h => h) (Or.inl ⟨by rfl, by intro w hSw; (try dsimp only at hSw); go_simp⟩) (by assumption) ?_
              simp only [Act.put, List.setIfInBounds_toArray, List.set_cons_zero, List.set_cons_succ]
              refine wpAnyH_take (i := 10) (oi := { dst := some 71, op := Go.Op.load 9 (Go.Operand.tmp 70), type := 9, pos := "l05_form.go:61", after := #[{ on := 9, ground := Go.Ground.data }], guard := none }) (v := .string ak.name) rfl (by kernel_rfl) (by kernel_rfl) (by kernel_rfl) (fun _ _ _ h => h) (Or.inl ⟨by rfl, by intro w hSw; (try dsimp only at hSw); go_simp⟩) (by assumption) ?_
              simp only [Act.put, List.setIfInBounds_toArray, List.set_cons_zero, List.set_cons_succ]
              refine wpAnyH_ready (rs := [1, 11]) (by kernel_rfl) (by simp) ?_
              refine (AllReadyH.cons (o := { dst := some 62, op := Go.Op.load 51 (Go.Operand.tmp 61), type := 51, pos := "l05_form.go:61", after := #[{ on := 0, ground := Go.Ground.data }], guard := none }) rfl (fun K hK => ?_) (AllReadyH.cons (o := { dst := some 72, op := Go.Op.call { callee := Go.Callee.value (Go.Operand.func 39), args := #[Go.Operand.tmp 67, Go.Operand.tmp 71], argTypes := #[64, 9] }, type := 9, pos := "l05_form.go:61", after := #[{ on := 6, ground := Go.Ground.data }, { on := 10, ground := Go.Ground.data }], guard := none }) rfl (fun K hK => ?_) AllReadyH.nil))
              · go_simp
                refine hK.out _ _ kc0 (fun hHeld => ?_)
                clear hK K
                try simp only [Act.put, List.setIfInBounds_toArray, List.set_cons_zero, List.set_cons_succ]
                refine wpAnyH_ready (rs := [11]) (by kernel_rfl) (by simp) ?_
                refine (AllReadyH.cons (o := { dst := some 72, op := Go.Op.call { callee := Go.Callee.value (Go.Operand.func 39), args := #[Go.Operand.tmp 67, Go.Operand.tmp 71], argTypes := #[64, 9] }, type := 9, pos := "l05_form.go:61", after := #[{ on := 6, ground := Go.Ground.data }, { on := 10, ground := Go.Ground.data }], guard := none }) rfl (fun K hK => ?_) AllReadyH.nil)
                go_simp
                go_at_call 39
                refine (HTX.out _ hWd).mono ?_
                rintro e w3 ⟨rfl, hb3⟩
                have kc1 := kept_cell hb3 hcl kc0
                have mt : ElB w3 eb tg pr (.slice a8 L.length c8) := kept_heap hb3 hel hE0
                obtain ⟨-, -, m2, mf⟩ := el_cell mt
                have HB3 := hid (HBd.out.trans (hb3.mono hWs))
                have l3 : wr.heap.size ≤ w3.heap.size := hb3.size
                have HO3 := hid (Nst.own_kept HOR.out (fun b hb => hb3.block b (Nst.own_lt HOR.out hb).2))
                have hb3x : Below wr.heap.size wr w3 := hDd.trans (hb3.mono (Nat.le_of_eq rfl))
                clear hb3
                go_wp2_with fail
                refine hK.out _ _ kc1 (fun hHeld => ?_)
                clear hK K
                try simp only [Act.put, List.setIfInBounds_toArray, List.set_cons_zero, List.set_cons_succ]
                refine wpAnyH_take (i := 12) (oi := { dst := some 73, op := Go.Op.build 68 #[(0, Go.Operand.tmp 66), (1, Go.Operand.tmp 72)], type := 68, pos := "l05_form.go:61", after := #[{ on := 5, ground := Go.Ground.data }, { on := 11, ground := Go.Ground.data }], guard := none }) (v := .agg #[.string ak.name, .string ak.value]) rfl (by kernel_rfl) (by kernel_rfl) (by kernel_rfl) (fun _ _ _ h => h) (Or.inl ⟨by rfl, by intro w hSw; (try dsimp only at hSw); go_simp⟩) (by assumption) ?_
                simp only [Act.put, List.setIfInBounds_toArray, List.set_cons_zero, List.set_cons_succ]
                refine wpAnyH_ready (rs := [13]) (by kernel_rfl) (by simp) ?_
                refine (AllReadyH.cons (o := { dst := some 74, op := Go.Op.buildSlice 51 1 #[(0, Go.Operand.tmp 73)], type := 51, pos := "l05_form.go:61", after := #[{ on := 12, ground := Go.Ground.data }], guard := none }) rfl (fun K hK => ?_) AllReadyH.nil)
                go_simp
                have hx4 : Below w3.heap.size w3 (w3.alloc (.cells #[.string ak.name, .string ak.value] 68)) := (Below.refl _ w3).alloc (Nat.le_refl _) _
                have kc2 := kept_cell hx4 (Nat.lt_of_lt_of_le hcl l3) kc1
                have pt : ElB (w3.alloc (.cells #[.string ak.name, .string ak.value] 68)) eb tg pr (.slice a8 L.length c8) := kept_heap hx4 (Nat.lt_of_lt_of_le hel l3) mt
                obtain ⟨-, -, p2, pf⟩ := el_cell pt
                refine hK.out _ _ kc2 (fun hHeld => ?_)
                clear hK K
                try simp only [Act.put, List.setIfInBounds_toArray, List.set_cons_zero, List.set_cons_succ]
                refine wpAnyH_ready (rs := [14]) (by kernel_rfl) (by simp) ?_
                refine (AllReadyH.cons (o := { dst := some 75, op := Go.Op.call { callee := Go.Callee.builtin Go.Builtin.append, args := #[Go.Operand.tmp 62, Go.Operand.tmp 74], argTypes := #[51, 51] }, type := 51, pos := "l05_form.go:61", after := #[{ on := 1, ground := Go.Ground.data }, { on := 13, ground := Go.Ground.data }, { on := 11, ground := Go.Ground.chain }], guard := none }) rfl (fun K hK => ?_) AllReadyH.nil)
                refine step_append_lies _ (by rfl) _ _ _ (by rfl) w2.heap.size 68 i0 _ 2 32 Tryz.underlying51 hi0 hx0 hx1 hx2 rfl (by omega) (.slice a8 L.length c8) L.length (avals L) (by rfl) (HO3.out.alloc _) ⟨w3.heap.size, 0, none⟩ 1 1 [.string ak.name, .string ak.value] (by rfl) (by rfl) (news #[.string ak.name, .string ak.value] _ _ rfl) (by simp [Value.oneCell']) (by omega) (by unfold maxLen; omega) (by omega) (by simp; omega) (w3.heap.size + 1) (by simp) ?_
                intro gg cp w5 hown5 hgrow5 hat5 hlt5
                have nnb : ∀ b, (Value.slice a8 L.length c8).ownBlock = some b → wo.heap.size ≤ b := fun b e => by have := (Nst.own_lt HOR.out e).1; omega
                have nnc : (Value.slice a8 L.length c8).ownBlock ≠ some g6 := fun e => by rcases HWR.out g6 e with h | h <;> omega
                have nne : (Value.slice a8 L.length c8).ownBlock ≠ some eb := fun e => by have := (Nst.own_lt HOR.out e).1; omega
                have kc3 := grown_cell2 hgrow5 kc2 nnc
                have rt : ElB w5 eb tg pr (.slice a8 L.length c8) := (hgrow5.block eb (by simp; omega) (Ne.symm nne)).trans pt
                obtain ⟨-, -, r2, rf⟩ := el_cell rt
                have HB5 := hid ((HB3.out.alloc (by omega) (.cells #[.string ak.name, .string ak.value] 68)).grown hgrow5 (by simp; omega) (fun b e => nnb b e))
                have HO5 := hid hown5
                have l5 : w3.heap.size < w5.heap.size := by have := hgrow5.size; simp at this; omega
                have HW5 : Hid (∀ b, own (.slice (some ⟨gg, 0, none⟩) (L.length + 1) cp) b → b < wB.heap.size ∨ w4.heap.size ≤ b) := hid (fun b hb => by
                  have hb2 : gg = b := by simpa [own, Value.ownBlock] using hb
                  rcases hat5 with e | e
                  · exact HWR.out b (hb2 ▸ e)
                  · exact .inr (by omega))
                have HS5 : Hid (SsAt w5 wB.heap.size w4.heap.size (.slice (some ⟨g6, o6, none⟩) (namesL sj).length c6) (namesL sj)) := hid (HSR.out.keep (fun q h1 h2 => by
                  rw [hgrow5.block q (by simp; omega) (fun e => by rcases HWR.out q e.symm with h | h <;> omega)]
                  exact ((hb3x.alloc hb3x.size (.cells #[.string ak.name, .string ak.value] 68)).block q (by omega))))
                clear hown5 hgrow5 hat5
                refine hK.out _ _ kc3 (fun hHeld => ?_)
                clear hK K
                try simp only [Act.put, List.setIfInBounds_toArray, List.set_cons_zero, List.set_cons_succ]
                refine wpAnyH_take (i := 15) (oi := { dst := some 76, op := Go.Op.fieldAddr 53 (Go.Operand.tmp 7) 2, type := 0, pos := "l05_form.go:61", after := #[{ on := 0, ground := Go.Ground.phase }, { on := 1, ground := Go.Ground.phase }, { on := 2, ground := Go.Ground.phase }, { on := 3, ground := Go.Ground.phase }, { on := 4, ground := Go.Ground.phase }, { on := 5, ground := Go.Ground.phase }, { on := 6, ground := Go.Ground.phase }, { on := 7, ground := Go.Ground.phase }, { on := 8, ground := Go.Ground.phase }, { on := 9, ground := Go.Ground.phase }, { on := 10, ground := Go.Ground.phase }, { on := 11, ground := Go.Ground.phase }, { on := 12, ground := Go.Ground.phase }, { on := 13, ground := Go.Ground.phase }, { on := 14, ground := Go.Ground.phase }], guard := none }) (v := .pointer (some ⟨eb, 2, none⟩)) rfl (by kernel_rfl) (by kernel_rfl) (by kernel_rfl) (fun _ _ _ h => h) (Or.inl ⟨by rfl, by intro w hSw; (try dsimp only at hSw); go_simp⟩) (by assumption) ?_
                simp only [Act.put, List.setIfInBounds_toArray, List.set_cons_zero, List.set_cons_succ]
                refine wpAnyH_ready (rs := [16]) (by kernel_rfl) (by simp) ?_
                refine (AllReadyH.cons (o := { dst := none, op := Go.Op.store 51 (Go.Operand.tmp 76) (Go.Operand.tmp 75), type := 0, pos := "l05_form.go:61", after := #[{ on := 15, ground := Go.Ground.data }, { on := 14, ground := Go.Ground.data }, { on := 14, ground := Go.Ground.chain }, { on := 0, ground := Go.Ground.phase }, { on := 1, ground := Go.Ground.phase }, { on := 2, ground := Go.Ground.phase }, { on := 3, ground := Go.Ground.phase }, { on := 4, ground := Go.Ground.phase }, { on := 5, ground := Go.Ground.phase }, { on := 6, ground := Go.Ground.phase }, { on := 7, ground := Go.Ground.phase }, { on := 8, ground := Go.Ground.phase }, { on := 9, ground := Go.Ground.phase }, { on := 10, ground := Go.Ground.phase }, { on := 11, ground := Go.Ground.phase }, { on := 12, ground := Go.Ground.phase }, { on := 13, ground := Go.Ground.phase }, { on := 14, ground := Go.Ground.phase }], guard := none }) rfl (fun K hK => ?_) AllReadyH.nil)
                go_simp
                have kc4 := set_cell2 (c := 2) (u := .slice (some ⟨gg, 0, none⟩) (L.length + 1) cp) hg6e kc3
                refine hK.out _ _ kc4 (fun hHeld => ?_)
                clear hK K
                try simp only [Act.put, List.setIfInBounds_toArray, List.set_cons_zero, List.set_cons_succ]
                refine wpAnyH_done (by kernel_rfl) ?_ _
                go_wp2
                exact ⟨⟨m + 1, by simp, by omega, _, set_el rt, ⟨_, _, _, rfl⟩, hid (by rw [HTA.out]; exact ownsRow_setCell_below (own_attr_snoc HO5.out) (a := ⟨eb, 2, none⟩) hebB _), hid HW5.out, hid (HS5.out.keep (fun q h1 h2 => Below.heap_setCell _ _ _ _ (by dsimp only; omega))), hid (HB5.out.setCell (p := ⟨eb, 2, none⟩) hebW _), by simp [World.setCell]; omega⟩, by simp [intOf]; omega⟩
              · go_simp
                go_at_call 39
                refine (HTX.out _ hWd).mono ?_
                rintro e w3 ⟨rfl, hb3⟩
                have kc1 := kept_cell hb3 hcl kc0
                have mt : ElB w3 eb tg pr (.slice a8 L.length c8) := kept_heap hb3 hel hE0
                obtain ⟨-, -, m2, mf⟩ := el_cell mt
                have HB3 := hid (HBd.out.trans (hb3.mono hWs))
                have l3 : wr.heap.size ≤ w3.heap.size := hb3.size
                have HO3 := hid (Nst.own_kept HOR.out (fun b hb => hb3.block b (Nst.own_lt HOR.out hb).2))
                have hb3x : Below wr.heap.size wr w3 := hDd.trans (hb3.mono (Nat.le_of_eq rfl))
                clear hb3
                go_wp2_with fail
                refine hK.out _ _ kc1 (fun hHeld => ?_)
                clear hK K
                try simp only [Act.put, List.setIfInBounds_toArray, List.set_cons_zero, List.set_cons_succ]
                refine wpAnyH_take (i := 12) (oi := { dst := some 73, op := Go.Op.build 68 #[(0, Go.Operand.tmp 66), (1, Go.Operand.tmp 72)], type := 68, pos := "l05_form.go:61", after := #[{ on := 5, ground := Go.Ground.data }, { on := 11, ground := Go.Ground.data }], guard := none }) (v := .agg #[.string ak.name, .string ak.value]) rfl (by kernel_rfl) (by kernel_rfl) (by kernel_rfl) (fun _ _ _ h => h) (Or.inl ⟨by rfl, by intro w hSw; (try dsimp only at hSw); go_simp⟩) (by assumption) ?_
                simp only [Act.put, List.setIfInBounds_toArray, List.set_cons_zero, List.set_cons_succ]
                refine wpAnyH_ready (rs := [1, 13]) (by kernel_rfl) (by simp) ?_
                refine (AllReadyH.cons (o := { dst := some 62, op := Go.Op.load 51 (Go.Operand.tmp 61), type := 51, pos := "l05_form.go:61", after := #[{ on := 0, ground := Go.Ground.data }], guard := none }) rfl (fun K hK => ?_) (AllReadyH.cons (o := { dst := some 74, op := Go.Op.buildSlice 51 1 #[(0, Go.Operand.tmp 73)], type := 51, pos := "l05_form.go:61", after := #[{ on := 12, ground := Go.Ground.data }], guard := none }) rfl (fun K hK => ?_) AllReadyH.nil))
                · go_simp
                  refine hK.out _ _ kc1 (fun hHeld => ?_)
                  clear hK K
                  try simp only [Act.put, List.setIfInBounds_toArray, List.set_cons_zero, List.set_cons_succ]
                  refine wpAnyH_ready (rs := [13]) (by kernel_rfl) (by simp) ?_
                  refine (AllReadyH.cons (o := { dst := some 74, op := Go.Op.buildSlice 51 1 #[(0, Go.Operand.tmp 73)], type := 51, pos := "l05_form.go:61", after := #[{ on := 12, ground := Go.Ground.data }], guard := none }) rfl (fun K hK => ?_) AllReadyH.nil)
                  go_simp
                  have hx4 : Below w3.heap.size w3 (w3.alloc (.cells #[.string ak.name, .string ak.value] 68)) := (Below.refl _ w3).alloc (Nat.le_refl _) _
                  have kc2 := kept_cell hx4 (Nat.lt_of_lt_of_le hcl l3) kc1
                  have pt : ElB (w3.alloc (.cells #[.string ak.name, .string ak.value] 68)) eb tg pr (.slice a8 L.length c8) := kept_heap hx4 (Nat.lt_of_lt_of_le hel l3) mt
                  obtain ⟨-, -, p2, pf⟩ := el_cell pt
                  refine hK.out _ _ kc2 (fun hHeld => ?_)
                  clear hK K
                  try simp only [Act.put, List.setIfInBounds_toArray, List.set_cons_zero, List.set_cons_succ]
                  refine wpAnyH_ready (rs := [14]) (by kernel_rfl) (by simp) ?_
                  refine (AllReadyH.cons (o := { dst := some 75, op := Go.Op.call { callee := Go.Callee.builtin Go.Builtin.append, args := #[Go.Operand.tmp 62, Go.Operand.tmp 74], argTypes := #[51, 51] }, type := 51, pos := "l05_form.go:61", after := #[{ on := 1, ground := Go.Ground.data }, { on := 13, ground := Go.Ground.data }, { on := 11, ground := Go.Ground.chain }], guard := none }) rfl (fun K hK => ?_) AllReadyH.nil)
                  refine step_append_lies _ (by rfl) _ _ _ (by rfl) w2.heap.size 68 i0 _ 2 32 Tryz.underlying51 hi0 hx0 hx1 hx2 rfl (by omega) (.slice a8 L.length c8) L.length (avals L) (by rfl) (HO3.out.alloc _) ⟨w3.heap.size, 0, none⟩ 1 1 [.string ak.name, .string ak.value] (by rfl) (by rfl) (news #[.string ak.name, .string ak.value] _ _ rfl) (by simp [Value.oneCell']) (by omega) (by unfold maxLen; omega) (by omega) (by simp; omega) (w3.heap.size + 1) (by simp) ?_
                  intro gg cp w5 hown5 hgrow5 hat5 hlt5
                  have nnb : ∀ b, (Value.slice a8 L.length c8).ownBlock = some b → wo.heap.size ≤ b := fun b e => by have := (Nst.own_lt HOR.out e).1; omega
                  have nnc : (Value.slice a8 L.length c8).ownBlock ≠ some g6 := fun e => by rcases HWR.out g6 e with h | h <;> omega
                  have nne : (Value.slice a8 L.length c8).ownBlock ≠ some eb := fun e => by have := (Nst.own_lt HOR.out e).1; omega
                  have kc3 := grown_cell2 hgrow5 kc2 nnc
                  have rt : ElB w5 eb tg pr (.slice a8 L.length c8) := (hgrow5.block eb (by simp; omega) (Ne.symm nne)).trans pt
                  obtain ⟨-, -, r2, rf⟩ := el_cell rt
                  have HB5 := hid ((HB3.out.alloc (by omega) (.cells #[.string ak.name, .string ak.value] 68)).grown hgrow5 (by simp; omega) (fun b e => nnb b e))
                  have HO5 := hid hown5
                  have l5 : w3.heap.size < w5.heap.size := by have := hgrow5.size; simp at this; omega
                  have HW5 : Hid (∀ b, own (.slice (some ⟨gg, 0, none⟩) (L.length + 1) cp) b → b < wB.heap.size ∨ w4.heap.size ≤ b) := hid (fun b hb => by
                  have hb2 : gg = b := by simpa [own, Value.ownBlock] using hb
                  rcases hat5 with e | e
                  · exact HWR.out b (hb2 ▸ e)
                  · exact .inr (by omega))
                  have HS5 : Hid (SsAt w5 wB.heap.size w4.heap.size (.slice (some ⟨g6, o6, none⟩) (namesL sj).length c6) (namesL sj)) := hid (HSR.out.keep (fun q h1 h2 => by
                  rw [hgrow5.block q (by simp; omega) (fun e => by rcases HWR.out q e.symm with h | h <;> omega)]
                  exact ((hb3x.alloc hb3x.size (.cells #[.string ak.name, .string ak.value] 68)).block q (by omega))))
                  clear hown5 hgrow5 hat5
                  refine hK.out _ _ kc3 (fun hHeld => ?_)
                  clear hK K
                  try simp only [Act.put, List.setIfInBounds_toArray, List.set_cons_zero, List.set_cons_succ]
                  refine wpAnyH_take (i := 15) (oi := { dst := some 76, op := Go.Op.fieldAddr 53 (Go.Operand.tmp 7) 2, type := 0, pos := "l05_form.go:61", after := #[{ on := 0, ground := Go.Ground.phase }, { on := 1, ground := Go.Ground.phase }, { on := 2, ground := Go.Ground.phase }, { on := 3, ground := Go.Ground.phase }, { on := 4, ground := Go.Ground.phase }, { on := 5, ground := Go.Ground.phase }, { on := 6, ground := Go.Ground.phase }, { on := 7, ground := Go.Ground.phase }, { on := 8, ground := Go.Ground.phase }, { on := 9, ground := Go.Ground.phase }, { on := 10, ground := Go.Ground.phase }, { on := 11, ground := Go.Ground.phase }, { on := 12, ground := Go.Ground.phase }, { on := 13, ground := Go.Ground.phase }, { on := 14, ground := Go.Ground.phase }], guard := none }) (v := .pointer (some ⟨eb, 2, none⟩)) rfl (by kernel_rfl) (by kernel_rfl) (by kernel_rfl) (fun _ _ _ h => h) (Or.inl ⟨by rfl, by intro w hSw; (try dsimp only at hSw); go_simp⟩) (by assumption) ?_
                  simp only [Act.put, List.setIfInBounds_toArray, List.set_cons_zero, List.set_cons_succ]
                  refine wpAnyH_ready (rs := [16]) (by kernel_rfl) (by simp) ?_
                  refine (AllReadyH.cons (o := { dst := none, op := Go.Op.store 51 (Go.Operand.tmp 76) (Go.Operand.tmp 75), type := 0, pos := "l05_form.go:61", after := #[{ on := 15, ground := Go.Ground.data }, { on := 14, ground := Go.Ground.data }, { on := 14, ground := Go.Ground.chain }, { on := 0, ground := Go.Ground.phase }, { on := 1, ground := Go.Ground.phase }, { on := 2, ground := Go.Ground.phase }, { on := 3, ground := Go.Ground.phase }, { on := 4, ground := Go.Ground.phase }, { on := 5, ground := Go.Ground.phase }, { on := 6, ground := Go.Ground.phase }, { on := 7, ground := Go.Ground.phase }, { on := 8, ground := Go.Ground.phase }, { on := 9, ground := Go.Ground.phase }, { on := 10, ground := Go.Ground.phase }, { on := 11, ground := Go.Ground.phase }, { on := 12, ground := Go.Ground.phase }, { on := 13, ground := Go.Ground.phase }, { on := 14, ground := Go.Ground.phase }], guard := none }) rfl (fun K hK => ?_) AllReadyH.nil)
                  go_simp
                  have kc4 := set_cell2 (c := 2) (u := .slice (some ⟨gg, 0, none⟩) (L.length + 1) cp) hg6e kc3
                  refine hK.out _ _ kc4 (fun hHeld => ?_)
                  clear hK K
                  try simp only [Act.put, List.setIfInBounds_toArray, List.set_cons_zero, List.set_cons_succ]
                  refine wpAnyH_done (by kernel_rfl) ?_ _
                  go_wp2
                  exact ⟨⟨m + 1, by simp, by omega, _, set_el rt, ⟨_, _, _, rfl⟩, hid (by rw [HTA.out]; exact ownsRow_setCell_below (own_attr_snoc HO5.out) (a := ⟨eb, 2, none⟩) hebB _), hid HW5.out, hid (HS5.out.keep (fun q h1 h2 => Below.heap_setCell _ _ _ _ (by dsimp only; omega))), hid (HB5.out.setCell (p := ⟨eb, 2, none⟩) hebW _), by simp [World.setCell]; omega⟩, by simp [intOf]; omega⟩
                · go_simp
                  have hx4 : Below w3.heap.size w3 (w3.alloc (.cells #[.string ak.name, .string ak.value] 68)) := (Below.refl _ w3).alloc (Nat.le_refl _) _
                  have kc2 := kept_cell hx4 (Nat.lt_of_lt_of_le hcl l3) kc1
                  have pt : ElB (w3.alloc (.cells #[.string ak.name, .string ak.value] 68)) eb tg pr (.slice a8 L.length c8) := kept_heap hx4 (Nat.lt_of_lt_of_le hel l3) mt
                  obtain ⟨-, -, p2, pf⟩ := el_cell pt
                  refine hK.out _ _ kc2 (fun hHeld => ?_)
                  clear hK K
                  try simp only [Act.put, List.setIfInBounds_toArray, List.set_cons_zero, List.set_cons_succ]
                  refine wpAnyH_ready (rs := [1]) (by kernel_rfl) (by simp) ?_
                  refine (AllReadyH.cons (o := { dst := some 62, op := Go.Op.load 51 (Go.Operand.tmp 61), type := 51, pos := "l05_form.go:61", after := #[{ on := 0, ground := Go.Ground.data }], guard := none }) rfl (fun K hK => ?_) AllReadyH.nil)
                  go_simp
                  refine hK.out _ _ kc2 (fun hHeld => ?_)
                  clear hK K
                  try simp only [Act.put, List.setIfInBounds_toArray, List.set_cons_zero, List.set_cons_succ]
                  refine wpAnyH_ready (rs := [14]) (by kernel_rfl) (by simp) ?_
                  refine (AllReadyH.cons (o := { dst := some 75, op := Go.Op.call { callee := Go.Callee.builtin Go.Builtin.append, args := #[Go.Operand.tmp 62, Go.Operand.tmp 74], argTypes := #[51, 51] }, type := 51, pos := "l05_form.go:61", after := #[{ on := 1, ground := Go.Ground.data }, { on := 13, ground := Go.Ground.data }, { on := 11, ground := Go.Ground.chain }], guard := none }) rfl (fun K hK => ?_) AllReadyH.nil)
                  refine step_append_lies _ (by rfl) _ _ _ (by rfl) w2.heap.size 68 i0 _ 2 32 Tryz.underlying51 hi0 hx0 hx1 hx2 rfl (by omega) (.slice a8 L.length c8) L.length (avals L) (by rfl) (HO3.out.alloc _) ⟨w3.heap.size, 0, none⟩ 1 1 [.string ak.name, .string ak.value] (by rfl) (by rfl) (news #[.string ak.name, .string ak.value] _ _ rfl) (by simp [Value.oneCell']) (by omega) (by unfold maxLen; omega) (by omega) (by simp; omega) (w3.heap.size + 1) (by simp) ?_
                  intro gg cp w5 hown5 hgrow5 hat5 hlt5
                  have nnb : ∀ b, (Value.slice a8 L.length c8).ownBlock = some b → wo.heap.size ≤ b := fun b e => by have := (Nst.own_lt HOR.out e).1; omega
                  have nnc : (Value.slice a8 L.length c8).ownBlock ≠ some g6 := fun e => by rcases HWR.out g6 e with h | h <;> omega
                  have nne : (Value.slice a8 L.length c8).ownBlock ≠ some eb := fun e => by have := (Nst.own_lt HOR.out e).1; omega
                  have kc3 := grown_cell2 hgrow5 kc2 nnc
                  have rt : ElB w5 eb tg pr (.slice a8 L.length c8) := (hgrow5.block eb (by simp; omega) (Ne.symm nne)).trans pt
                  obtain ⟨-, -, r2, rf⟩ := el_cell rt
                  have HB5 := hid ((HB3.out.alloc (by omega) (.cells #[.string ak.name, .string ak.value] 68)).grown hgrow5 (by simp; omega) (fun b e => nnb b e))
                  have HO5 := hid hown5
                  have l5 : w3.heap.size < w5.heap.size := by have := hgrow5.size; simp at this; omega
                  have HW5 : Hid (∀ b, own (.slice (some ⟨gg, 0, none⟩) (L.length + 1) cp) b → b < wB.heap.size ∨ w4.heap.size ≤ b) := hid (fun b hb => by
                  have hb2 : gg = b := by simpa [own, Value.ownBlock] using hb
                  rcases hat5 with e | e
                  · exact HWR.out b (hb2 ▸ e)
                  · exact .inr (by omega))
                  have HS5 : Hid (SsAt w5 wB.heap.size w4.heap.size (.slice (some ⟨g6, o6, none⟩) (namesL sj).length c6) (namesL sj)) := hid (HSR.out.keep (fun q h1 h2 => by
                  rw [hgrow5.block q (by simp; omega) (fun e => by rcases HWR.out q e.symm with h | h <;> omega)]
                  exact ((hb3x.alloc hb3x.size (.cells #[.string ak.name, .string ak.value] 68)).block q (by omega))))
                  clear hown5 hgrow5 hat5
                  refine hK.out _ _ kc3 (fun hHeld => ?_)
                  clear hK K
                  try simp only [Act.put, List.setIfInBounds_toArray, List.set_cons_zero, List.set_cons_succ]
                  refine wpAnyH_take (i := 15) (oi := { dst := some 76, op := Go.Op.fieldAddr 53 (Go.Operand.tmp 7) 2, type := 0, pos := "l05_form.go:61", after := #[{ on := 0, ground := Go.Ground.phase }, { on := 1, ground := Go.Ground.phase }, { on := 2, ground := Go.Ground.phase }, { on := 3, ground := Go.Ground.phase }, { on := 4, ground := Go.Ground.phase }, { on := 5, ground := Go.Ground.phase }, { on := 6, ground := Go.Ground.phase }, { on := 7, ground := Go.Ground.phase }, { on := 8, ground := Go.Ground.phase }, { on := 9, ground := Go.Ground.phase }, { on := 10, ground := Go.Ground.phase }, { on := 11, ground := Go.Ground.phase }, { on := 12, ground := Go.Ground.phase }, { on := 13, ground := Go.Ground.phase }, { on := 14, ground := Go.Ground.phase }], guard := none }) (v := .pointer (some ⟨eb, 2, none⟩)) rfl (by kernel_rfl) (by kernel_rfl) (by kernel_rfl) (fun _ _ _ h => h) (Or.inl ⟨by rfl, by intro w hSw; (try dsimp only at hSw); go_simp⟩) (by assumption) ?_
                  simp only [Act.put, List.setIfInBounds_toArray, List.set_cons_zero, List.set_cons_succ]
                  refine wpAnyH_ready (rs := [16]) (by kernel_rfl) (by simp) ?_
                  refine (AllReadyH.cons (o := { dst := none, op := Go.Op.store 51 (Go.Operand.tmp 76) (Go.Operand.tmp 75), type := 0, pos := "l05_form.go:61", after := #[{ on := 15, ground := Go.Ground.data }, { on := 14, ground := Go.Ground.data }, { on := 14, ground := Go.Ground.chain }, { on := 0, ground := Go.Ground.phase }, { on := 1, ground := Go.Ground.phase }, { on := 2, ground := Go.Ground.phase }, { on := 3, ground := Go.Ground.phase }, { on := 4, ground := Go.Ground.phase }, { on := 5, ground := Go.Ground.phase }, { on := 6, ground := Go.Ground.phase }, { on := 7, ground := Go.Ground.phase }, { on := 8, ground := Go.Ground.phase }, { on := 9, ground := Go.Ground.phase }, { on := 10, ground := Go.Ground.phase }, { on := 11, ground := Go.Ground.phase }, { on := 12, ground := Go.Ground.phase }, { on := 13, ground := Go.Ground.phase }, { on := 14, ground := Go.Ground.phase }], guard := none }) rfl (fun K hK => ?_) AllReadyH.nil)
                  go_simp
                  have kc4 := set_cell2 (c := 2) (u := .slice (some ⟨gg, 0, none⟩) (L.length + 1) cp) hg6e kc3
                  refine hK.out _ _ kc4 (fun hHeld => ?_)
                  clear hK K
                  try simp only [Act.put, List.setIfInBounds_toArray, List.set_cons_zero, List.set_cons_succ]
                  refine wpAnyH_done (by kernel_rfl) ?_ _
                  go_wp2
                  exact ⟨⟨m + 1, by simp, by omega, _, set_el rt, ⟨_, _, _, rfl⟩, hid (by rw [HTA.out]; exact ownsRow_setCell_below (own_attr_snoc HO5.out) (a := ⟨eb, 2, none⟩) hebB _), hid HW5.out, hid (HS5.out.keep (fun q h1 h2 => Below.heap_setCell _ _ _ _ (by dsimp only; omega))), hid (HB5.out.setCell (p := ⟨eb, 2, none⟩) hebW _), by simp [World.setCell]; omega⟩, by simp [intOf]; omega⟩
            · have q3 : ¬ (m : Int) < ((namesL sj).length : Int) := by omega
              have hmn : m = (kindA sj).length := by have := HNL.out; omega
              have HAO : Hid (wr.ownsRow w2.heap.size 68 2 (.slice a8 n8 c8) (attrsOf sj).length (avals (attrsOf sj))) := hid (by
                have := HOR.out
                rw [hmn, List.take_length] at this
                exact this)
              have hn8 : n8 = (attrsOf sj).length := by
                obtain ⟨a', c', e'⟩ := Nst.own_slice HAO.out
                cases e'; rfl
              subst hn8
              obtain ⟨wp, hwp⟩ : ∃ wp, wp = wr := ⟨_, rfl⟩
              subst hwp
              have hals := attrs_len sj
              have HAA := hid (attrs_own HAO.out)
              obtain ⟨ek0, ek1, ek2, -⟩ := el_cell hEQ
              have hebp : eb < wp.heap.size := el_lt hEQ
              have HVL := hid (fun a (h : a ∈ attrsOf sj) => HVZ.out a h)
              have HEN : Hid (∀ (q : Nat) (h : q < (attrsOf sj).length), (attrsOf sj)[q] = (attrsOf sj)[q]) := hid (fun _ _ => rfl)
              have HWP := hid (HB.out.trans (HBR.out.mono HB.out.size))
              clear HOR HWR HSR hEQ hmn
              go_wp2_with fail
              go_loop [10] (fun i10 => ∃ n : Nat, i10 = .int .i64 n ∧ n ≤ (attrsOf sj).length ∧ Hid (∀ q (h : q < (attrsOf sj).length), q < n → longA (attrsOf sj)[q] = false)) (fun i10 => (attrsOf sj).length - (intOf i10).toNat)
              case atStart => exact ⟨0, rfl, Nat.zero_le _, hid (fun q _ h => by omega)⟩
              case round =>
                obtain ⟨n, rfl, hnl2, HLN⟩ := hrel
                by_cases hlt3 : n < (attrsOf sj).length
                · have q4 : (n : Int) < ((attrsOf sj).length : Int) := by omega
                  obtain ⟨g8, o8, rfl, hg8, y0, y1⟩ := HAA.out.at hlt3
                  have hvs := HVL.out _ (List.getElem_mem hlt3)
                  have hLA : longA (attrsOf sj)[n] = decide (40 < (attrsOf sj)[n].value.size) := rfl
                  have HANY := hid (fun (h : longA (attrsOf sj)[n] = true) => any_long HPJ.out hlt hlt3 h)
                  have HLE := hid (fun (h : decide (40 < (attrsOf sj)[n].value.size) = false) => (hLA.trans h))
                  generalize hann : (attrsOf sj)[n] = an at *
                  by_cases hq : 40 < an.value.size
                  · have q5 : (40 : Int) < (an.value.size : Int) := by omega
                    have HAN := hid (HANY.out (by rw [hLA]; exact decide_eq_true hq))
                    clear hq hLA HANY hann HLE
                    go_wp2
                    refine bodyPost_ret (v := .tuple #[.slice none 0 0, .bool false]) (by simp [results, Tryz.results19, go_sem]) rfl ?_
                    exact ⟨⟨_, _, rfl, .inl ⟨rfl, HAN.out⟩⟩, HWP.out⟩
                  · have q5 : ¬ (40 : Int) < (an.value.size : Int) := by omega
                    have HLN2 : Hid (∀ q (h : q < (attrsOf sj).length), q < n + 1 → longA (attrsOf sj)[q] = false) := hid (fun q h hq2 => by
                      by_cases e : q = n
                      · subst e
                        rw [hann]
                        exact HLE.out (decide_eq_false hq)
                      · exact HLN.out q h (by omega))
                    clear hq hLA HANY hann HLE
                    go_wp2
                    exact ⟨⟨n + 1, by simp, by omega, HLN2⟩, by simp [intOf]; omega⟩
                · have q4 : ¬ (n : Int) < ((attrsOf sj).length : Int) := by omega
                  have HNL3 : Hid (long sj = false) := hid (not_long (fun q h => HLN.out q h (by omega)))
                  obtain ⟨F, hF⟩ := HO.out
                  have HEF := hid hF
                  have HRW := hid (Nst.own_kept hF.row (fun b hb => HBR.out.block b (Nst.own_lt hF.row hb).2))
                  have hn7 : n7 = (treeL (ss.take j)).length := by
                    obtain ⟨a', c', e'⟩ := Nst.own_slice hF.row
                    cases e'; rfl
                  subst hn7
                  have lwo := HB.out.size
                  have lrp := HBR.out.size
                  generalize htr : treeL (ss.take j) = tr at *
                  clear hF HO htr HLN
                  go_wp2_with (at_builtin; go_must (refine wpList_append_own_at _ rfl _ _ 24 rfl w.heap.size 53 j0 (.agg #[.string ⟨#[]⟩, .int .i64 0, .slice none 0 0]) 3 48 Tryz.underlying24 hj hy0 hy1 hy2 rfl (by decide) _ _ _ rfl (HRW.out.alloc _) ⟨wp.heap.size, 0, none⟩ 1 1 [.string tg, .int .i64 pr, .slice a8 (attrsOf sj).length c8] rfl rfl (news #[.string tg, .int .i64 pr, .slice a8 (attrsOf sj).length c8] _ _ rfl) (by simp [Value.oneCell']) (by unfold maxLen; omega) (by omega) (by simp; omega) ?_); intro v9 w9 hown9 hg9 _ hat9; obtain ⟨a9, c9, rfl⟩ := Nst.own_slice hown9)
                  have hx4 : Below wp.heap.size wp (wp.alloc (.cells #[.string tg, .int .i64 pr, .slice a8 (attrsOf sj).length c8] 53)) := (Below.refl _ wp).alloc (Nat.le_refl _) _
                  have HED2 : Hid (elemD sj = ⟨tg, pr, attrsOf sj⟩) := hid (by rw [HED.out])
                  have HO9 : Hid (EOwn w9 w.heap.size (.slice a9 (tr.length + 1) c9) (tr ++ [elemD sj])) := hid (push_at HEF.out (by omega) (HBR.out.trans (hx4.mono HBR.out.size)) (by rw [HED2.out]; exact Nst.own_mono (HAO.out.alloc _) (by omega)) (by rw [HED2.out]; exact hown9) hg9 hat9)
                  have HB9 : Hid (Below w.heap.size w w9) := hid ((HWP.out.alloc (by omega) _).grown hg9 (by simp; omega) (fun b e => (Nst.own_lt HRW.out e).1))
                  have HLG2 : Hid (∀ q, q < j + 1 → long (PJ ss q) = false) := hid (fun q hq => by
                    by_cases e : q = j
                    · rw [e, HPJ.out]; exact HNL3.out
                    · exact HLG.out q (by omega))
                  clear hown9 hg9 hat9 hx4
                  go_wp2
                  exact ⟨⟨j + 1, by simp, by omega, ⟨_, _, _, rfl⟩, ⟨_, _, _, _, _, rfl, rfl, rfl, rfl, rfl⟩, hid (by rw [HTS.out]; exact HO9.out), HLG2, HB9⟩, by simp [intOf]; omega⟩
    · have q1 : ¬ (j : Int) < (ss.length : Int) := by omega
      have hjn : j = ss.length := by omega
      have HO1 : Hid (EOwn wo w.heap.size (.slice a7 n7 c7) (treeL ss)) := hid (by
        have := HO.out
        rw [hjn, List.take_length] at this
        exact this)
      have HNA : Hid (ss.any long = false) := hid (none_long (fun q h => HLG.out q (by omega)))
      clear HO HLG hjn
      go_wp2
      refine bodyPost_ret (v := .tuple #[.slice a7 n7 c7, .bool true]) (by simp [results, Tryz.results19, go_sem]) rfl ?_
      exact ⟨⟨_, _, rfl, .inr ⟨rfl, HNA.out, HO1.out⟩⟩, HB.out⟩
end Tf
end Go.Proofs.YtgghigfflpbjiaaGreatDoor
/- The specification's TreeOf. -/
namespace Go.Proofs.YtgghigfflpbjiaaGreatDoor
open Go.RowKit
set_option linter.unusedVariables false
namespace Tf
open Ex (hid inR eFault str str_size textOf)
open Nd (NodeD)
open St (StepD)
open Tr (AttrD ElemD AttrsAt ElemsAt fault)
open Pf
open Nst (own)
set_option maxRecDepth 100000 in
set_option maxHeartbeats 8000000 in
theorem specTreeOf (B : Nat) (ss : List StepD) (v : Value) (w : World) (hsm : St.Small 1048576 ss) (ha : St.At w B v ss) :
    Calls Tryz.prog 6 #[v] w fun e w' => (∃ u, e = .returned (.agg #[.int .i64 (treeC ss), .int .i64 0, u]) ∧ EOwn w' (w.heap.size + 1) u (treeE ss)) ∧ Below w.heap.size w w' := by
  obtain ⟨a, cap, rfl⟩ := ha.slice
  have HB0 : Hid (Below w.heap.size w (w.alloc (.cells #[.int .i64 0, .int .i64 0, .slice none 0 0] 26))) := hid ((Below.refl _ w).alloc (Nat.le_refl _) _)
  have HF := hid (Pf.specFault B ss _ _ hsm (ha.below HB0.out))
  have HA := hid ha
  have HS := hid hsm
  clear ha hsm
  go_enter Tryz.func6, Tryz.ntmps6
  go_wp2_with fail
  refine HF.out.mono ?_
  rintro e w1 ⟨rfl, hb1⟩
  have B1 : Below w.heap.size w w1 := HB0.out.trans (hb1.mono HB0.out.size)
  have hz : (w.alloc (.cells #[.int .i64 0, .int .i64 0, .slice none 0 0] 26)).heap.size = w.heap.size + 1 := by simp
  have l1 : w.heap.size + 1 ≤ w1.heap.size := by have := hb1.size; omega
  have lw1 : w.heap.size < w1.heap.size := by omega
  have u0 := kept_cell hb1 (b := w.heap.size) (o := 0) (v := .int .i64 0) (by omega) (by go_simp)
  have u1 := kept_cell hb1 (b := w.heap.size) (o := 1) (v := .int .i64 0) (by omega) (by go_simp)
  have u2 := kept_cell hb1 (b := w.heap.size) (o := 2) (v := .slice none 0 0) (by omega) (by go_simp)
  have x0 := kept_free hb1 (b := w.heap.size) (o := 0) (by omega) (by go_simp)
  have x1 := kept_free hb1 (b := w.heap.size) (o := 1) (by omega) (by go_simp)
  have x2 := kept_free hb1 (b := w.heap.size) (o := 2) (by omega) (by go_simp)
  have HB1 := hid B1
  clear hz HF hb1 B1
  by_cases hp : pFault ss = 0
  · have HTL := hid (specL5Tree B ss _ w1 hp HS.out (HA.out.below HB1.out))
    have HTC := hid (treeC_f hp)
    have HLO := hid (fun (h : ss.any long = true) => (treeC_f hp).trans ((fault_tree hp).trans (if_pos h)))
    have HSM := hid (tree_smallE hp)
    have HOK := hid (tree_okE hp)
    have b1 : (pFault ss != 0) = false := by simp [hp]
    generalize hpf : pFault ss = pf at *
    clear hpf hp
    go_wp2_with fail
    refine HTL.out.mono ?_
    rintro e w2 ⟨⟨u, b, rfl, hcase⟩, hb2⟩
    have e0 := kept_cell hb2 lw1 u0
    have e1 := kept_cell hb2 lw1 u1
    have e2 := kept_cell hb2 lw1 u2
    have f0 := kept_free hb2 lw1 x0
    have f1 := kept_free hb2 lw1 x1
    have f2 := kept_free hb2 lw1 x2
    have lw2 : w.heap.size < w2.heap.size := Nat.lt_of_lt_of_le lw1 hb2.size
    have HB2 := hid (HB1.out.trans (hb2.mono HB1.out.size))
    clear HTL hb2
    rcases hcase with ⟨rfl, hany⟩ | ⟨rfl, hany, hown⟩
    · have HT2 := hid (HLO.out hany)
      have HTE : Hid (treeE ss = []) := hid (by unfold treeE; rw [if_neg (by rw [HT2.out]; omega)])
      clear hany
      go_wp2
      refine bodyPost_ret (v := .agg #[.int .i64 2, .int .i64 0, .slice none 0 0]) (by simp [results, Tryz.results6, go_sem, e0, e1, e2]) rfl ⟨⟨_, ret3 HT2.out.symm, ?_⟩, setB (setB (setB HB2.out (Nat.le_refl _) _) (Nat.le_refl _) _) (Nat.le_refl _) _⟩
      rw [HTE.out]
      exact EOwn.nil _ _
    · obtain ⟨au, cu, rfl⟩ := hown.slice
      have HOW := hid hown
      have HFA := hid (Tr.specFault1 w1.heap.size (treeL ss) _ w2 (by have := HSM.out.1; omega) HOK.out hown.elems)
      clear hown hany
      go_wp2_with fail
      refine HFA.out.mono ?_
      rintro e w5 ⟨rfl, hb5⟩
      have r0 := kept_cell hb5 lw2 e0
      have r1 := kept_cell hb5 lw2 e1
      have r2 := kept_cell hb5 lw2 e2
      have t0 := kept_free hb5 lw2 f0
      have t1 := kept_free hb5 lw2 f1
      have t2 := kept_free hb5 lw2 f2
      have HB5 := hid (HB2.out.trans (hb5.mono HB2.out.size))
      have HO5 := hid ((HOW.out.below hb5).mono l1)
      clear HFA hb5 e0 e1 e2 f0 f1 f2 HOW
      by_cases hf : fault (treeL ss) = 0
      · have HTE : Hid (treeE ss = treeL ss) := hid (by unfold treeE; rw [if_pos (HTC.out.trans hf)])
        have HT0 : Hid (treeC ss = 0) := hid (HTC.out.trans hf)
        have b2 : (fault (treeL ss) != 0) = false := by simp [hf]
        generalize hff : fault (treeL ss) = ff at *
        clear hff hf
        go_wp2
        refine bodyPost_ret (v := .agg #[.int .i64 0, .int .i64 0, .slice au (treeL ss).length cu]) (by simp [results, Tryz.results6, go_sem, r0, r1, r2]) rfl ⟨⟨_, ret3 HT0.out.symm, ?_⟩, setB (setB (setB HB5.out (Nat.le_refl _) _) (Nat.le_refl _) _) (Nat.le_refl _) _⟩
        rw [HTE.out]
        exact HO5.out.keep (fun b h1 _ => heap_set3 (by omega))
      · have HTE : Hid (treeE ss = []) := hid (by unfold treeE; rw [if_neg (by rw [HTC.out]; exact hf)])
        have b2 : (fault (treeL ss) != 0) = true := by simpa using hf
        generalize hff : fault (treeL ss) = ff at *
        clear hff hf
        go_wp2
        refine bodyPost_ret (v := .agg #[.int .i64 ff, .int .i64 0, .slice none 0 0]) (by simp [results, Tryz.results6, go_sem, r0, r1, r2]) rfl ⟨⟨_, ret3 HTC.out.symm, ?_⟩, setB (setB (setB HB5.out (Nat.le_refl _) _) (Nat.le_refl _) _) (Nat.le_refl _) _⟩
        rw [HTE.out]
        exact EOwn.nil _ _
  · have HTC := hid (treeC_p hp)
    have HTE : Hid (treeE ss = []) := hid (by unfold treeE; rw [if_neg (by rw [HTC.out]; exact hp)])
    have b1 : (pFault ss != 0) = true := by simpa using hp
    generalize hpf : pFault ss = pf at *
    clear hpf hp
    go_wp2
    refine bodyPost_ret (v := .agg #[.int .i64 pf, .int .i64 0, .slice none 0 0]) (by simp [results, Tryz.results6, go_sem, u0, u1, u2]) rfl ⟨⟨_, ret3 HTC.out.symm, ?_⟩, setB (setB (setB HB1.out (Nat.le_refl _) _) (Nat.le_refl _) _) (Nat.le_refl _) _⟩
    rw [HTE.out]
    exact EOwn.nil _ _
end Tf
end Go.Proofs.YtgghigfflpbjiaaGreatDoor
