/- Laid together: TfB, PoA. -/
import Derived.Test.YtahkpgffoiaeiaaGreatDoorJProcOf38
import Derived.Test.YtahkpgffoiaeiaaGreatDoorJProcOf17
import Derived.Test.YtahkpgffoiaeiaaGreatDoorJProcOf43
import Derived.Test.YtahkpgffoiaeiaaGreatDoorJProcOf19
import Derived.Test.YtahkpgffoiaeiaaGreatDoorJProcOf11
import Derived.Test.YtahkpgffoiaeiaaGreatDoorJProcOf21
import Derived.Test.YtahkpgffoiaeiaaGreatDoorJProcOf15
/- Rows of texts; the names of the attrs that a kind has, as the program answers them. -/
namespace Go.Proofs.YtahkpgffoiaeiaaGreatDoor
open Go.RowKit
set_option linter.unusedVariables false
namespace Tf
open Ex (hid inR eFault str str_size textOf)
open Nd (NodeD)
open St (StepD)
open Tr (AttrD ElemD AttrsAt ElemsAt fault)
open Pf
open Nst (own)
open Go.Lib (decDigits)
/-- Texts in a row, in a block of that range. -/
def SsAt (w : World) (B C : Nat) (v : Value) (l : List ByteArray) : Prop := ∃ a cap, v = .slice a l.length cap ∧ ∀ i (h : i < l.length), ∃ g o, a = some ⟨g, o, none⟩ ∧ B ≤ g ∧ g < C ∧ w.cell? ⟨g, o + i, none⟩ = some (.string l[i])
theorem SsAt.slice {w : World} {B C : Nat} {v : Value} {l : List ByteArray} (h : SsAt w B C v l) : ∃ a cap, v = .slice a l.length cap := by obtain ⟨a, cap, rfl, _⟩ := h; exact ⟨a, cap, rfl⟩
theorem SsAt.at {w : World} {B C : Nat} {a : Option Addr} {n cap : Nat} {l : List ByteArray} (h : SsAt w B C (.slice a n cap) l) {i : Nat} (hi : i < l.length) : ∃ g o, a = some ⟨g, o, none⟩ ∧ B ≤ g ∧ g < C ∧ w.cell? ⟨g, o + i, none⟩ = some (.string l[i]) := by
  obtain ⟨a', cap', e, h⟩ := h; cases e; exact h i hi
theorem SsAt.keep {w w' : World} {B C : Nat} {v : Value} {l : List ByteArray} (h : SsAt w B C v l) (hb : ∀ g, B ≤ g → g < C → w'.heap[g]? = w.heap[g]?) : SsAt w' B C v l := by
  obtain ⟨a, cap, rfl, h⟩ := h
  refine ⟨a, cap, rfl, fun i hi => ?_⟩
  obtain ⟨g, o, rfl, hB, hC, hc⟩ := h i hi
  exact ⟨g, o, rfl, hB, hC, by simp only [World.cell?, hb g hB hC] at hc ⊢; exact hc⟩
def namesL (s : StepD) : List ByteArray := (kindA s).map (·.name)
theorem ss_one {w : World} (x : ByteArray) (t : TypeId) : SsAt (w.alloc (.cells #[.string x] t)) w.heap.size (w.alloc (.cells #[.string x] t)).heap.size (.slice (some ⟨w.heap.size, 0, none⟩) 1 1) [x] := by
  refine ⟨_, 1, rfl, fun i hi => ⟨w.heap.size, 0, rfl, Nat.le_refl _, by simp, ?_⟩⟩
  obtain rfl : i = 0 := by simpa using hi
  go_simp
theorem ss_two {w : World} (x y : ByteArray) (t : TypeId) : SsAt (w.alloc (.cells #[.string x, .string y] t)) w.heap.size (w.alloc (.cells #[.string x, .string y] t)).heap.size (.slice (some ⟨w.heap.size, 0, none⟩) 2 2) [x, y] := by
  refine ⟨_, 2, rfl, fun i hi => ⟨w.heap.size, 0, rfl, Nat.le_refl _, by simp, ?_⟩⟩
  match i, hi with
  | 0, _ => go_simp
  | 1, _ => go_simp
theorem ss_nil (w : World) (B C : Nat) (a : Option Addr) (c : Nat) : SsAt w B C (.slice a 0 c) [] := ⟨a, c, rfl, fun i hi => by simp at hi⟩
theorem kind2 {s : StepD} (h : s.kind = 2) : kindA s = [⟨aName, s.name⟩] := by unfold kindA; rw [if_pos h]
theorem kind5 {s : StepD} (h : s.kind = 5) : kindA s = [⟨aMsg, digs s⟩] := by unfold kindA; rw [if_neg (by omega), if_pos h]
theorem kind6 {s : StepD} (h : s.kind = 6 ∨ s.kind = 8) : kindA s = [⟨aTicks, digs s⟩] := by unfold kindA; rw [if_neg (by omega), if_neg (by omega), if_pos h]
theorem kind7 {s : StepD} (h : s.kind = 7) : kindA s = [⟨aVar, digs s⟩, ⟨aTo, str (textOf s.expr)⟩] := by unfold kindA; rw [if_neg (by omega), if_neg (by omega), if_neg (by omega), if_pos h]
theorem kind0 {s : StepD} (h : s.kind = 1 ∨ s.kind = 3 ∨ s.kind = 4) : kindA s = [] := by unfold kindA; rw [if_neg (by omega), if_neg (by omega), if_neg (by omega), if_neg (by omega)]
set_option maxRecDepth 100000 in
set_option maxHeartbeats 2000000 in
theorem implNames (s : StepD) (w : World) (hk : inR s.kind 1 8 = true) :
    Calls Tryz.prog 84 #[.int .i64 s.kind] w fun e w' => ∃ v, e = .returned v ∧ SsAt w' w.heap.size w'.heap.size v (namesL s) ∧ Below w.heap.size w w' := by
  have HB : ∀ o, Hid (Below w.heap.size w (w.alloc o)) := fun o => hid ((Below.refl _ w).alloc (Nat.le_refl _) _)
  rcases kinds hk with k | k | k | k | k | k | k | k
  · have HN : Hid (namesL s = []) := hid (by unfold namesL; rw [kind0 (by omega)]; rfl)
    rw [k]
    clear k hk
    go_enter Tryz.func84, Tryz.ntmps84
    go_wp2
    go_ret
    exact ⟨_, rfl, by rw [HN.out]; exact ss_nil _ _ _ _ _, Below.refl _ _⟩
  · have HN : Hid (namesL s = [aName]) := hid (by unfold namesL; rw [kind2 k]; rfl)
    rw [k]
    clear k hk
    go_enter Tryz.func84, Tryz.ntmps84
    go_wp2
    go_ret
    exact ⟨_, rfl, by rw [HN.out]; exact ss_one _ _, (HB _).out⟩
  · have HN : Hid (namesL s = []) := hid (by unfold namesL; rw [kind0 (by omega)]; rfl)
    rw [k]
    clear k hk
    go_enter Tryz.func84, Tryz.ntmps84
    go_wp2
    go_ret
    exact ⟨_, rfl, by rw [HN.out]; exact ss_nil _ _ _ _ _, Below.refl _ _⟩
  · have HN : Hid (namesL s = []) := hid (by unfold namesL; rw [kind0 (by omega)]; rfl)
    rw [k]
    clear k hk
    go_enter Tryz.func84, Tryz.ntmps84
    go_wp2
    go_ret
    exact ⟨_, rfl, by rw [HN.out]; exact ss_nil _ _ _ _ _, Below.refl _ _⟩
  · have HN : Hid (namesL s = [aMsg]) := hid (by unfold namesL; rw [kind5 k]; rfl)
    rw [k]
    clear k hk
    go_enter Tryz.func84, Tryz.ntmps84
    go_wp2
    go_ret
    exact ⟨_, rfl, by rw [HN.out]; exact ss_one _ _, (HB _).out⟩
  · have HN : Hid (namesL s = [aTicks]) := hid (by unfold namesL; rw [kind6 (by omega)]; rfl)
    rw [k]
    clear k hk
    go_enter Tryz.func84, Tryz.ntmps84
    go_wp2
    go_ret
    exact ⟨_, rfl, by rw [HN.out]; exact ss_one _ _, (HB _).out⟩
  · have HN : Hid (namesL s = [aVar, aTo]) := hid (by unfold namesL; rw [kind7 k]; rfl)
    rw [k]
    clear k hk
    go_enter Tryz.func84, Tryz.ntmps84
    go_wp2
    go_ret
    exact ⟨_, rfl, by rw [HN.out]; exact ss_two _ _ _, (HB _).out⟩
  · have HN : Hid (namesL s = [aTicks]) := hid (by unfold namesL; rw [kind6 (by omega)]; rfl)
    rw [k]
    clear k hk
    go_enter Tryz.func84, Tryz.ntmps84
    go_wp2
    go_ret
    exact ⟨_, rfl, by rw [HN.out]; exact ss_one _ _, (HB _).out⟩
theorem implClone (s : ByteArray) (w : World) (h : s.size ≤ 1048576) : Calls Tryz.prog 87 #[.string s] w fun e w' => e = .returned (.string s) ∧ Below w.heap.size w w' := by
  go_enter Tryz.func87, Tryz.ntmps87
  go_wp2_with fail
  refine (Tryz.stringslite_Clone s _ (by omega)).mono ?_
  rintro e w1 ⟨rfl, hb1⟩
  go_wp2
  go_ret
  exact ⟨rfl, hb1⟩
def sagg (s : StepD) (vc ve : Value) : Value := .agg #[.int .i64 s.kind, .int .i64 s.parent, .string s.name, .int .i64 s.arg, vc, ve]
abbrev sobj (s : StepD) (vc ve : Value) : Obj := .cells #[.int .i64 s.kind, .int .i64 s.parent, .string s.name, .int .i64 s.arg, vc, ve] 42
def aagg (a : AttrD) : Value := .agg #[.string a.name, .string a.value]
end Tf
end Go.Proofs.YtahkpgffoiaeiaaGreatDoor
/- Which attrs an element has: the program's hasAttrsOf. -/
namespace Go.Proofs.YtahkpgffoiaeiaaGreatDoor
open Go.RowKit
set_option linter.unusedVariables false
namespace Po
open Ex (hid inR str)
open Nd (NodeD)
open St (StepD)
open Tr (AttrD ElemD AttrsAt ElemsAt hasName attrIdx implPlace)
open Tf (aIf aName aMsg aTicks aVar aTo SsAt implNames namesL)
open Pf (kindN)
def idxN (l : List ByteArray) (x : ByteArray) : Int := match l.findIdx? (fun n => eqN x n) with
  | some i => i
  | none => -1
theorem eqN_comm (a b : ByteArray) : eqN a b = eqN b a := by
  unfold eqN
  cases h : (b.toList == a.toList)
  · rw [beq_eq_false_iff_ne] at h ⊢; exact fun e => h e.symm
  · rw [beq_iff_eq] at h ⊢; exact h.symm
theorem idx_yes {l : List ByteArray} {x : ByteArray} {k : Nat} (hk : k < l.length) (hy : eqN x l[k] = true) (hn : ∀ j (h : j < l.length), j < k → eqN x l[j] = false) : idxN l x = k := by
  have : l.findIdx? (fun n => eqN x n) = some k := by
    rw [List.findIdx?_eq_some_iff_getElem]
    exact ⟨hk, hy, fun j hj => by rw [hn j (by omega) hj]; simp⟩
  unfold idxN; rw [this]
theorem idx_no {l : List ByteArray} {x : ByteArray} (hn : ∀ j (h : j < l.length), eqN x l[j] = false) : idxN l x = -1 := by
  have : l.findIdx? (fun n => eqN x n) = none := by
    rw [List.findIdx?_eq_none_iff]
    intro y hy
    obtain ⟨j, hj, rfl⟩ := List.getElem_of_mem hy
    exact hn j hj
  unfold idxN; rw [this]
theorem idx_any (l : List ByteArray) (x : ByteArray) : (0 ≤ idxN l x) ↔ (l.any fun n => eqN n x) = true := by
  unfold idxN
  cases h : l.findIdx? (fun n => eqN x n) with
  | some i =>
    simp only [Int.natCast_nonneg, true_iff]
    rw [List.findIdx?_eq_some_iff_getElem] at h
    obtain ⟨hi, hy, _⟩ := h
    rw [List.any_eq_true]
    exact ⟨l[i], List.getElem_mem hi, by rw [eqN_comm]; exact hy⟩
  | none =>
    rw [List.findIdx?_eq_none_iff] at h
    constructor
    · intro hc; change (0 : Int) ≤ -1 at hc; omega
    · intro hc
      rw [List.any_eq_true] at hc
      obtain ⟨n, hn, he⟩ := hc
      have := h n hn
      rw [eqN_comm, he] at this
      simp at this
theorem names_eq (s : StepD) : namesL s = namesK s.kind := by
  unfold namesL Tf.kindA namesK
  split
  · rfl
  · split
    · rfl
    · split
      · rfl
      · split <;> rfl
theorem at_place {l : List AttrD} {n : ByteArray} : hasName l n = decide (attrIdx l n ≠ -1) := by
  unfold attrIdx hasName
  cases h : l.findIdx? (fun a => a.name.toList == n.toList) with
  | some i =>
    rw [List.findIdx?_eq_some_iff_getElem] at h
    obtain ⟨hi, hy, _⟩ := h
    have : (l.any fun a => a.name.toList == n.toList) = true := List.any_eq_true.2 ⟨l[i], List.getElem_mem hi, hy⟩
    rw [this]
    have : ((i : Int) ≠ -1) := by omega
    simp [this]
  | none =>
    rw [List.findIdx?_eq_none_iff] at h
    have : (l.any fun a => a.name.toList == n.toList) = false := by
      rw [List.any_eq_false]
      intro x hx
      rw [h x hx]; simp
    rw [this]; simp
theorem aIf_l : aIf.toList = [105, 102] := by show (ByteArray.mk [105, 102].toArray).toList = _; rw [ByteArray.toList_mk]
theorem aName_l : aName.toList = [110, 97, 109, 101] := by show (ByteArray.mk [110, 97, 109, 101].toArray).toList = _; rw [ByteArray.toList_mk]
theorem aTo_l : aTo.toList = [116, 111] := by show (ByteArray.mk [116, 111].toArray).toList = _; rw [ByteArray.toList_mk]
abbrev mine (k : Int) (a : AttrD) : Bool := eqN a.name aIf || (namesK k).any fun n => eqN n a.name
theorem has_no1 {k : Int} {l : List AttrD} {j : Nat} (hj : j < l.length) (h : mine k l[j] = false) : hasA k l = false := by
  unfold hasA
  rw [Bool.and_eq_false_iff]
  left
  rw [List.all_eq_false]
  exact ⟨l[j], List.getElem_mem hj, by show ¬ mine k l[j] = true; rw [h]; simp⟩
theorem has_no2 {k : Int} {l : List AttrD} {j : Nat} (hj : j < (namesK k).length) (h : attrIdx l (namesK k)[j] = -1) : hasA k l = false := by
  unfold hasA
  rw [Bool.and_eq_false_iff]
  right
  rw [List.all_eq_false]
  exact ⟨_, List.getElem_mem hj, by rw [at_place, h]; simp⟩
theorem has_yes {k : Int} {l : List AttrD} (h1 : ∀ j (h : j < l.length), mine k l[j] = true) (h2 : ∀ j (h : j < (namesK k).length), attrIdx l (namesK k)[j] ≠ -1) : hasA k l = true := by
  unfold hasA
  rw [Bool.and_eq_true]
  constructor
  · rw [List.all_eq_true]
    intro x hx
    obtain ⟨j, hj, rfl⟩ := List.getElem_of_mem hx
    exact h1 j hj
  · rw [List.all_eq_true]
    intro x hx
    obtain ⟨j, hj, rfl⟩ := List.getElem_of_mem hx
    rw [at_place]
    exact decide_eq_true (h2 j hj)
set_option maxRecDepth 100000 in
set_option maxHeartbeats 2000000 in
theorem implIndex (B C : Nat) (l : List ByteArray) (v : Value) (x : ByteArray) (w : World) (hl : l.length ≤ 1000) (h : SsAt w B C v l) :
    Calls Tryz.prog 102 #[v, .string x] w fun e w' => e = .returned (.int .i64 (idxN l x)) ∧ w' = w := by
  obtain ⟨a, cap, rfl⟩ := h.slice
  have HS := hid h
  clear h
  go_enter Tryz.func102, Tryz.ntmps102
  go_wp2
  go_loop [8] (fun i => ∃ k : Nat, k ≤ l.length ∧ i = .int .i64 k ∧ Hid (∀ j (h : j < l.length), j < k → eqN x l[j] = false)) (fun i => l.length - (intOf i).toNat)
  case atStart => exact ⟨0, Nat.zero_le _, rfl, hid (fun j _ h => by omega)⟩
  case round =>
    obtain ⟨k, hk, rfl, HJ⟩ := hrel
    by_cases hlt : k < l.length
    · obtain ⟨g, o, rfl, hg, _, c0⟩ := HS.out.at hlt
      have q1 : (k : Int) < (l.length : Int) := by omega
      cases hE : (x.toList == l[k].toList)
      · have HJ2 : Hid (∀ j (h : j < l.length), j < k + 1 → eqN x l[j] = false) := hid (fun j h hj => by
          by_cases e : j = k
          · subst e; exact hE
          · exact HJ.out j h (by omega))
        go_wp2
        exact ⟨⟨k + 1, by omega, by simp, HJ2⟩, by simp [intOf]; omega⟩
      · have HV : Hid (idxN l x = k) := idx_yes hlt hE HJ.out
        go_wp2
        go_ret
        exact ⟨by rw [HV.out]; rfl, rfl⟩
    · have HV : Hid (idxN l x = -1) := idx_no (fun j hj => HJ.out j hj (by omega))
      go_wp2
      go_ret
      exact ⟨by rw [HV.out]; rfl, rfl⟩
set_option maxRecDepth 100000 in
set_option maxHeartbeats 2000000 in
theorem implContains (B C : Nat) (l : List ByteArray) (v : Value) (x : ByteArray) (w : World) (hl : l.length ≤ 1000) (h : SsAt w B C v l) :
    Calls Tryz.prog 85 #[v, .string x] w fun e w' => e = .returned (.bool (l.any fun n => eqN n x)) ∧ w' = w := by
  have HC := hid (implIndex B C l v x w hl h)
  obtain ⟨a, cap, rfl⟩ := h.slice
  have HQ := hid (idx_any l x)
  clear h
  generalize idxN l x = z at *
  generalize (l.any fun n => eqN n x) = y at *
  go_enter Tryz.func85, Tryz.ntmps85
  go_wp2_with (go_at_call 102; refine HC.out.mono ?_; rintro e w' ⟨rfl, rfl⟩)
  go_ret
  refine ⟨?_, rfl⟩
  have := HQ.out
  cases y
  · have : ¬ 0 ≤ z := fun hc => by have := HQ.out.1 hc; simp at this
    simp [this]
  · have : 0 ≤ z := HQ.out.2 rfl
    simp [this]
set_option maxRecDepth 100000 in
set_option maxHeartbeats 4000000 in
theorem implHas (B : Nat) (kd : Int) (l : List AttrD) (v : Value) (w : World) (hl : l.length ≤ 1048576) (ha : AttrsAt w B v l) (hk : inR kd 1 8 = true) :
    Calls Tryz.prog 68 #[.int .i64 kd, v] w fun e w' => e = .returned (.bool (hasA kd l)) ∧ Below w.heap.size w w' := by
  obtain ⟨a, cap, rfl⟩ := ha.slice
  have HS := hid ha
  have HN := hid (implNames ⟨kd, 0, ByteArray.empty, 0, [], []⟩ w hk)
  have HNL := hid (names_len kd)
  rw [names_eq] at HN
  clear ha hk
  go_enter Tryz.func68, Tryz.ntmps68
  go_wp2_with fail
  refine HN.out.mono ?_
  rintro e w2 ⟨v2, rfl, hs2, hb2⟩
  change SsAt w2 w.heap.size w2.heap.size v2 (namesK kd) at hs2
  obtain ⟨a2, c2, rfl⟩ := hs2.slice
  have HS2 := hid hs2
  have hnl := HNL.out
  have HE : Hid (∀ x, x ∈ [namesK kd] → x = namesK kd) := hid (by simp)
  have HF1 : Hid (∀ {j : Nat} (hj : j < l.length), mine kd l[j] = false → hasA kd l = false) := hid (fun hj h => has_no1 hj h)
  have HF2 : Hid (∀ {j : Nat} (hj : j < (namesK kd).length), attrIdx l (namesK kd)[j] = -1 → hasA kd l = false) := hid (fun hj h => has_no2 hj h)
  have HF3 : Hid ((∀ j (h : j < l.length), mine kd l[j] = true) → (∀ j (h : j < (namesK kd).length), attrIdx l (namesK kd)[j] ≠ -1) → hasA kd l = true) := hid has_yes
  have HM : Hid (∀ {j : Nat} (hj : j < l.length), mine kd l[j] = (eqN l[j].name aIf || (namesK kd).any fun n => eqN n l[j].name)) := hid (fun _ => rfl)
  clear hs2 HN HE
  generalize namesK kd = ns at *
  go_wp2_with fail
  go_loopw [14] (fun i wr => ∃ k : Nat, k ≤ l.length ∧ i = .int .i64 k ∧ Hid (∀ j (h : j < l.length), j < k → mine kd l[j] = true) ∧ Hid (Below w2.heap.size w2 wr)) (fun i _ => l.length - (intOf i).toNat)
  case atStart => exact ⟨0, Nat.zero_le _, rfl, hid (fun j _ h => by omega), hid (Below.refl _ _)⟩
  case round =>
    obtain ⟨k, hk, rfl, HJ, HB⟩ := hrel
    by_cases hlt : k < l.length
    · obtain ⟨g, o, rfl, hg, c0, c1⟩ := ((HS.out.below hb2).below HB.out).at hlt
      have q1 : (k : Int) < (l.length : Int) := by omega
      have HB2 : ∀ o, Hid (Below w2.heap.size w2 (wr.alloc o)) := fun o => hid (HB.out.alloc HB.out.size _)
      have HSR : ∀ o, Hid (SsAt (wr.alloc o) w.heap.size w2.heap.size (.slice a2 ns.length c2) ns) := fun o => hid (HS2.out.keep (fun g _ hg => ((HB2 o).out.block g hg)))
      have HC : ∀ o, Hid (Calls Tryz.prog 85 #[.slice a2 ns.length c2, .string l[k].name] (wr.alloc o) fun e w' => e = .returned (.bool (ns.any fun n => eqN n l[k].name)) ∧ w' = wr.alloc o) := fun o => hid (implContains _ _ ns _ _ _ (by omega) (HSR o).out)
      have HMK := hid (HM.out hlt)
      have HFK := hid (HF1.out hlt)
      have HJ2 : mine kd l[k] = true → Hid (∀ j (h : j < l.length), j < k + 1 → mine kd l[j] = true) := fun hy => hid (fun j h hj => by
          by_cases e : j = k
          · subst e; exact hy
          · exact HJ.out j h (by omega))
      cases hE : (l[k].name.toList == aIf.toList)
      · have hE' : (l[k].name.toList == [105, 102]) = false := by rw [← aIf_l]; exact hE
        cases hC : (ns.any fun n => eqN n l[k].name)
        · have HV : Hid (hasA kd l = false) := hid (HFK.out (by rw [HMK.out, hC]; show (eqN l[k].name aIf || false) = false; rw [Bool.or_false]; exact hE))
          rw [hC] at HC
          clear HJ2 hC
          go_wp2_with (go_at_call 85; refine (HC _).out.mono ?_; rintro e w' ⟨rfl, rfl⟩)
          go_ret
          exact ⟨by rw [HV.out]; rfl, Below.trans hb2 ((HB2 _).out.mono hb2.size)⟩
        · have HJ3 := HJ2 (by rw [HMK.out, hC]; simp)
          rw [hC] at HC
          clear HJ2 hC
          go_wp2_with (go_at_call 85; refine (HC _).out.mono ?_; rintro e w' ⟨rfl, rfl⟩)
          exact ⟨⟨k + 1, by omega, by simp, HJ3, HB2 _⟩, by simp [intOf]; omega⟩
      · have hE' : (l[k].name.toList == [105, 102]) = true := by rw [← aIf_l]; exact hE
        have HJ3 := HJ2 (by rw [HMK.out]; show (eqN l[k].name aIf || _) = true; rw [show eqN l[k].name aIf = true from hE]; rfl)
        clear HJ2
        go_wp2
        exact ⟨⟨k + 1, by omega, by simp, HJ3, HB2 _⟩, by simp [intOf]; omega⟩
    · have HALL : Hid (∀ j (h : j < l.length), mine kd l[j] = true) := hid (fun j h => HJ.out j h (by omega))
      obtain ⟨w3, hw3⟩ : ∃ w3, w3 = wr := ⟨wr, rfl⟩
      rw [← hw3] at HB ⊢
      clear HJ hw3
      go_wp2_with fail
      go_loopw [31] (fun i wr => ∃ k : Nat, k ≤ ns.length ∧ i = .int .i64 k ∧ Hid (∀ j (h : j < ns.length), j < k → attrIdx l ns[j] ≠ -1) ∧ Hid (Below w2.heap.size w2 wr)) (fun i _ => ns.length - (intOf i).toNat)
      case atStart => exact ⟨0, Nat.zero_le _, rfl, hid (fun j _ h => by omega), HB⟩
      case round =>
        obtain ⟨k, hk, rfl, HJ, HB4⟩ := hrel
        by_cases hlt : k < ns.length
        · obtain ⟨g, o, rfl, hg, _, c0⟩ := (HS2.out.keep (fun g _ hg => HB4.out.block g hg)).at hlt
          have q1 : (k : Int) < (ns.length : Int) := by omega
          have HP := hid (implPlace B l _ ns[k] wr hl ((HS.out.below hb2).below HB4.out))
          cases hE : (attrIdx l ns[k] == -1)
          · have hne : attrIdx l ns[k] ≠ -1 := by simpa using hE
            have HJ3 : Hid (∀ j (h : j < ns.length), j < k + 1 → attrIdx l ns[j] ≠ -1) := hid (fun j h hj => by
              by_cases e : j = k
              · subst e; exact hne
              · exact HJ.out j h (by omega))
            clear hne
            generalize attrIdx l ns[k] = z at *
            go_wp2_with (go_at_call 86; refine HP.out.mono ?_; rintro e w5 ⟨rfl, hb5⟩; have HB5 : Hid (Below w2.heap.size w2 w5) := hid (Below.trans HB4.out (hb5.mono HB4.out.size)); clear hb5)
            exact ⟨⟨k + 1, by omega, by simp, HJ3, HB5⟩, by simp [intOf]; omega⟩
          · have HV : Hid (hasA kd l = false) := hid (HF2.out hlt (by simpa using hE))
            generalize attrIdx l ns[k] = z at *
            go_wp2_with (go_at_call 86; refine HP.out.mono ?_; rintro e w5 ⟨rfl, hb5⟩; have HB5 : Hid (Below w2.heap.size w2 w5) := hid (Below.trans HB4.out (hb5.mono HB4.out.size)); clear hb5)
            go_ret
            exact ⟨by rw [HV.out]; rfl, Below.trans hb2 (HB5.out.mono hb2.size)⟩
        · have HV : Hid (hasA kd l = true) := hid (HF3.out HALL.out (fun j h => HJ.out j h (by omega)))
          go_wp2
          go_ret
          exact ⟨by rw [HV.out]; rfl, Below.trans hb2 (HB4.out.mono hb2.size)⟩
end Po
end Go.Proofs.YtahkpgffoiaeiaaGreatDoor
