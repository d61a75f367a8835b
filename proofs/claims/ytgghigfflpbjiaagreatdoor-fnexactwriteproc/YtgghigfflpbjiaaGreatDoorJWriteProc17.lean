/- Laid together: TrN, TrS. -/
import Derived.Test.YtgghigfflpbjiaaGreatDoorJWriteProc14
import Derived.Test.YtgghigfflpbjiaaGreatDoorJWriteProc11
import Derived.Deep.QuietTactic
import Derived.BigQuiet
/- What is wrong with a name, as the specification and as the program tell it. -/
namespace Go.Proofs.YtgghigfflpbjiaaGreatDoor
open Go.RowKit
set_option linter.unusedVariables false
namespace Tr
theorem take_snoc (s : ByteArray) (k : Nat) (h : k < s.size) : s.data.toList.take (k + 1) = s.data.toList.take k ++ [s[k]] := by
  rw [List.take_succ_eq_append_getElem (by simpa using h)]; rfl
theorem az_no (s : ByteArray) (k : Nat) (h : k < s.size) (hn : azByte s[k] = false) : azAll s.data.toList = false := by
  unfold azAll
  rw [List.all_eq_false]
  refine ⟨s[k], ?_, by simp [hn]⟩
  exact List.getElem_mem (l := s.data.toList) (by simpa using h)
theorem az_snoc (s : ByteArray) (k : Nat) (h : k < s.size) (ha : azAll (s.data.toList.take k) = true) (hy : azByte s[k] = true) : azAll (s.data.toList.take (k + 1)) = true := by
  rw [take_snoc s k h]; unfold azAll at *; rw [List.all_append, ha]; simp [hy]
theorem az_end (s : ByteArray) (k : Nat) (h : ¬ k < s.size) (ha : azAll (s.data.toList.take k) = true) : azAll s.data.toList = true := by
  rw [List.take_of_length_le (by simp; omega)] at ha; exact ha
theorem len_size (s : ByteArray) : s.data.toList.length = s.size := by simp
theorem nf_no {s : ByteArray} (h : azAll s.data.toList = false) : nf s.data.toList = 5 := by unfold nf; simp [h]
theorem nf_nil {s : ByteArray} (h : s.size = 0) : nf s.data.toList = 5 := by unfold nf; rw [len_size]; simp [h]
theorem nf_many {s : ByteArray} (h : azAll s.data.toList = true) (h0 : s.size ≠ 0) (h8 : 8 < s.size) : nf s.data.toList = 2 := by unfold nf; rw [len_size]; rw [if_neg (by simp [h]), if_neg h0, if_pos h8]
theorem nf_ok {s : ByteArray} (h : azAll s.data.toList = true) (h0 : s.size ≠ 0) (h8 : ¬ 8 < s.size) : nf s.data.toList = 0 := by unfold nf; rw [len_size, if_neg (by simp [h]), if_neg h0, if_neg h8]
theorem ne_nil {s : ByteArray} (h : s.size ≠ 0) : s.toList.isEmpty = false := by
  rw [ByteArray.toList_eq, List.isEmpty_eq_false_iff]; intro e; apply h; rw [← len_size, e]; rfl
theorem is_nil {s : ByteArray} (h : s.size = 0) : s = { data := #[] } := by
  cases s with | mk d => congr; exact Array.eq_empty_of_size_eq_zero h

set_option maxRecDepth 100000 in
set_option maxHeartbeats 400000 in
theorem spec_nf1 (s : ByteArray) (w : World) (hs : s.size ≤ maxLen) :
    Calls Tryz.prog 40 #[.string s] w fun e w' => e = .returned (.int .i64 (nf s.data.toList)) ∧ w' = w := by
  unfold maxLen at hs
  go_enter Tryz.func40, Tryz.ntmps40
  go_wp2
  go_loop [3] (fun i => ∃ k : Nat, k ≤ s.size ∧ i = .int .i64 k ∧ azAll (s.data.toList.take k) = true) (fun i => s.size - (intOf i).toNat)
  case atStart => exact ⟨0, Nat.zero_le _, rfl, rfl⟩
  case round =>
    obtain ⟨k, hk, rfl, ha⟩ := hrel
    have HA : Hid (azAll (s.data.toList.take k) = true) := ha
    clear ha
    by_cases hlt : k < s.size
    · by_cases h97 : (s[k].toNat : Int) < 97
      · have HS : Hid (nf s.data.toList = 5) := nf_no (az_no s k hlt (by simp [azByte]; omega))
        go_wp2
        go_ret
        exact ⟨by rw [HS.out]; rfl, rfl⟩
      · by_cases h122 : (s[k].toNat : Int) > 122
        · have HS : Hid (nf s.data.toList = 5) := nf_no (az_no s k hlt (by simp [azByte]; omega))
          go_wp2
          go_ret
          exact ⟨by rw [HS.out]; rfl, rfl⟩
        · have HS : Hid (azAll (s.data.toList.take (k + 1)) = true) := az_snoc s k hlt HA.out (by simp [azByte]; omega)
          go_wp2
          exact ⟨⟨k + 1, by omega, by go_num, HS.out⟩, by simp [intOf]; omega⟩
    · have hall := az_end s k hlt HA.out
      by_cases h0 : s.size = 0
      · have HS : Hid (nf s.data.toList = 5) := nf_nil h0
        have hb : s.toList.isEmpty = true := by rw [is_nil h0, ByteArray.toList_eq]; rfl
        clear hall
        go_wp2
        go_ret
        exact ⟨by rw [HS.out]; rfl, rfl⟩
      · have hb := ne_nil h0
        by_cases h8 : 8 < s.size
        · have HS : Hid (nf s.data.toList = 2) := nf_many hall h0 h8
          clear hall
          go_wp2
          go_ret
          exact ⟨by rw [HS.out]; rfl, rfl⟩
        · have HS : Hid (nf s.data.toList = 0) := nf_ok hall h0 h8
          clear hall
          go_wp2
          go_ret
          exact ⟨by rw [HS.out]; rfl, rfl⟩

set_option maxRecDepth 100000 in
set_option maxHeartbeats 400000 in
theorem impl_nf (s : ByteArray) (w : World) (hs : s.size ≤ maxLen) :
    Calls Tryz.prog 81 #[.string s] w fun e w' => e = .returned (.int .i64 (nf s.data.toList)) ∧ w' = w := by
  unfold maxLen at hs
  by_cases h0 : s.size = 0
  · have HS : Hid (nf s.data.toList = 5) := nf_nil h0
    have hb : s.toList.isEmpty = true := by rw [is_nil h0, ByteArray.toList_eq]; rfl
    go_enter Tryz.func81, Tryz.ntmps81
    go_wp2
    go_ret
    exact ⟨by rw [HS.out]; rfl, rfl⟩
  have hb := ne_nil h0
  go_enter Tryz.func81, Tryz.ntmps81
  go_wp2
  go_loop [8] (fun i => ∃ k : Nat, k ≤ s.size ∧ i = .int .i64 k ∧ azAll (s.data.toList.take k) = true) (fun i => s.size - (intOf i).toNat)
  case atStart => exact ⟨0, Nat.zero_le _, rfl, rfl⟩
  case round =>
    obtain ⟨k, hk, rfl, ha⟩ := hrel
    have HA : Hid (azAll (s.data.toList.take k) = true) := ha
    clear ha
    by_cases hlt : k < s.size
    · by_cases h97 : (s[k].toNat : Int) < 97
      · have HS : Hid (nf s.data.toList = 5) := nf_no (az_no s k hlt (by simp [azByte]; omega))
        go_wp2
        go_ret
        exact ⟨by rw [HS.out]; rfl, rfl⟩
      · by_cases h122 : (s[k].toNat : Int) > 122
        · have HS : Hid (nf s.data.toList = 5) := nf_no (az_no s k hlt (by simp [azByte]; omega))
          go_wp2
          go_ret
          exact ⟨by rw [HS.out]; rfl, rfl⟩
        · have HS : Hid (azAll (s.data.toList.take (k + 1)) = true) := az_snoc s k hlt HA.out (by simp [azByte]; omega)
          go_wp2
          exact ⟨⟨k + 1, by omega, by go_num, HS.out⟩, by simp [intOf]; omega⟩
    · have hall := az_end s k hlt HA.out
      by_cases h8 : 8 < s.size
      · have HS : Hid (nf s.data.toList = 2) := nf_many hall h0 h8
        clear hall
        go_wp2
        go_ret
        exact ⟨by rw [HS.out]; rfl, rfl⟩
      · have HS : Hid (nf s.data.toList = 0) := nf_ok hall h0 h8
        clear hall
        go_wp2
        go_ret
        exact ⟨by rw [HS.out]; rfl, rfl⟩

end Tr
end Go.Proofs.YtgghigfflpbjiaaGreatDoor
/- What is wrong with a tree, as the specification tells it: attrs, paths, elements. -/
namespace Go.Proofs.YtgghigfflpbjiaaGreatDoor
open Go.RowKit
set_option linter.unusedVariables false
namespace Tr
theorem AttrsAt.take {w : World} {B : Nat} {a : Option Addr} {n cap : Nat} {l : List AttrD} (h : AttrsAt w B (.slice a n cap) l) {k : Nat} (hk : k ≤ l.length) : AttrsAt w B (.slice a k cap) (l.take k) := by
  obtain ⟨a', cap', e, h1, h2, h⟩ := h
  cases e
  refine ⟨a, cap, by rw [List.length_take, Nat.min_eq_left hk], by rw [List.length_take]; omega, h2, ?_⟩
  rcases h with h | ⟨g, o, rfl, hB, hg, hc⟩
  · exact .inl (by simp [h])
  · refine .inr ⟨g, o, rfl, hB, hg, fun i hi => ?_⟩
    have hi' : i < l.length := by simp at hi; omega
    rw [List.getElem_take]
    exact hc i hi'
theorem AttrsAt.drew {w : World} {B : Nat} {v : Value} {l : List AttrD} (h : AttrsAt w B v l) (n : Nat) : AttrsAt (w.drewN n) B v l := h.kept (Nat.le_refl _) (fun _ _ _ => rfl)
theorem ElemsAt.drew {w : World} {B : Nat} {v : Value} {l : List ElemD} (h : ElemsAt w B v l) (n : Nat) : ElemsAt (w.drewN n) B v l := h.kept (Nat.le_refl _) (fun _ _ _ => rfl)
theorem below_drewN' {B : Nat} {a w : World} (h : Below B a w) (n : Nat) : Below B a (w.drewN n) := ⟨h.os, h.tape, h.output, h.size, h.block⟩
theorem vcode_same (l : List UInt8) : vcode l = Esc.vcode l := rfl
theorem chain_get {es : List ElemD} {a : Nat} {r : List Nat} (h : Chain es (a :: r)) : ∃ h1 : a < es.length, es[a].parent = top r := by
  obtain ⟨⟨e, he, hp⟩, _, _⟩ := h
  obtain ⟨h1, h2⟩ := List.getElem?_eq_some_iff.1 he
  exact ⟨h1, by rw [h2]; exact hp⟩
/-- The first place of a name, -1 where there is none. -/
def attrIdx (l : List AttrD) (nm : ByteArray) : Int := match l.findIdx? (fun a => a.name.toList == nm.toList) with
  | some i => i
  | none => -1
theorem idx_found {l : List AttrD} {nm : ByteArray} {k : Nat} (hk : k < l.length) (hy : (l[k].name.toList == nm.toList) = true) (hn : ∀ j (h : j < l.length), j < k → (l[j].name.toList == nm.toList) = false) : attrIdx l nm = k := by
  unfold attrIdx
  have h : l.findIdx? (fun a => a.name.toList == nm.toList) = some k := List.findIdx?_eq_some_iff_getElem.2 ⟨hk, hy, fun j hj => by rw [hn j (Nat.lt_trans hj hk) hj]; decide⟩
  rw [h]
theorem idx_none {l : List AttrD} {nm : ByteArray} (hn : ∀ j (h : j < l.length), (l[j].name.toList == nm.toList) = false) : attrIdx l nm = -1 := by
  unfold attrIdx
  have h : l.findIdx? (fun a => a.name.toList == nm.toList) = none := List.findIdx?_eq_none_iff.2 (fun a ha => by
    obtain ⟨j, hj, rfl⟩ := List.getElem_of_mem ha
    exact hn j hj)
  rw [h]
theorem idx_lo (l : List AttrD) (nm : ByteArray) : -1 ≤ attrIdx l nm := by unfold attrIdx; split <;> omega
theorem idx_has (l : List AttrD) (nm : ByteArray) : hasName l nm = decide (0 ≤ attrIdx l nm) := by
  unfold hasName attrIdx
  cases h : l.findIdx? (fun a => a.name.toList == nm.toList) with
  | none =>
    rw [List.findIdx?_eq_none_iff] at h
    rw [List.any_eq_false.2 (fun a ha => by rw [h a ha]; decide)]
    rfl
  | some i =>
    obtain ⟨hi, hy, _⟩ := List.findIdx?_eq_some_iff_getElem.1 h
    rw [List.any_eq_true.2 ⟨l[i], List.getElem_mem hi, hy⟩]
    have : (0 : Int) ≤ (i : Int) := by omega
    simp [this]
set_option maxRecDepth 100000 in
set_option maxHeartbeats 400000 in
theorem specIn (v a b : Int) (w : World) : Calls Tryz.prog 41 #[.int .i64 v, .int .i64 a, .int .i64 b] w fun e w' => e = .returned (.bool (decide (a ≤ v) && decide (v ≤ b))) ∧ w' = w := by
  by_cases h1 : a ≤ v
  · by_cases h2 : v ≤ b
    · go_enter Tryz.func41, Tryz.ntmps41
      go_wp2
      go_ret
      exact ⟨by simp [h1, h2], rfl⟩
    · go_enter Tryz.func41, Tryz.ntmps41
      go_wp2
      go_ret
      exact ⟨by simp [h2], rfl⟩
  · go_enter Tryz.func41, Tryz.ntmps41
    go_wp2
    go_ret
    exact ⟨by simp; omega, rfl⟩
set_option maxRecDepth 100000 in
set_option maxHeartbeats 1000000 in
theorem specAttr (B : Nat) (l : List AttrD) (v : Value) (nm : ByteArray) (w : World) (hl : l.length ≤ 1048576) (ha : AttrsAt w B v l) :
    Calls Tryz.prog 71 #[v, .string nm] w fun e w' => e = .returned (.int .i64 (attrIdx l nm)) ∧ w' = w := by
  obtain ⟨a, cap, rfl⟩ := ha.slice
  have HA := hid ha
  clear ha
  go_enter Tryz.func71, Tryz.ntmps71
  go_wp2
  go_loop [5] (fun i => ∃ k : Nat, k ≤ l.length ∧ i = .int .i64 k ∧ Hid (∀ j (h : j < l.length), j < k → (l[j].name.toList == nm.toList) = false)) (fun i => l.length - (intOf i).toNat)
  case atStart => exact ⟨0, Nat.zero_le _, rfl, fun j _ h => by omega⟩
  case round =>
    obtain ⟨k, hk, rfl, HJ⟩ := hrel
    by_cases hlt : k < l.length
    · obtain ⟨g, o, rfl, hg, c0, c1⟩ := HA.out.at hlt
      have q1 : (k : Int) < (l.length : Int) := by omega
      cases hE : (l[k].name.toList == nm.toList)
      · have HJ2 : Hid (∀ j (h : j < l.length), j < k + 1 → (l[j].name.toList == nm.toList) = false) := hid (fun j h hj => by
          by_cases e : j = k
          · subst e; exact hE
          · exact HJ.out j h (by omega))
        go_wp2
        exact ⟨⟨k + 1, by omega, by go_num, HJ2⟩, by simp [intOf]; omega⟩
      · have HV : Hid (attrIdx l nm = k) := idx_found hlt hE HJ.out
        go_wp2
        go_ret
        exact ⟨by rw [HV.out]; rfl, rfl⟩
    · have HV : Hid (attrIdx l nm = -1) := idx_none (fun j hj => HJ.out j hj (by omega))
      go_wp2
      go_ret
      exact ⟨by rw [HV.out]; rfl, rfl⟩
set_option maxRecDepth 100000 in
set_option maxHeartbeats 2000000 in
theorem specAttrs (B : Nat) (l : List AttrD) (v : Value) (w : World) (hl : l.length ≤ 1048576) (hk : OkA l) (ha : AttrsAt w B v l) :
    Calls Tryz.prog 44 #[v] w fun e w' => e = .returned (.int .i64 (acode l)) ∧ Below w.heap.size w w' := by
  obtain ⟨a, cap, rfl⟩ := ha.slice
  have HA := hid ha
  have HK := hid hk
  clear ha hk
  go_enter Tryz.func44, Tryz.ntmps44
  go_wp2
  go_loopw [3, 4, 5] (fun i _ _ wr => ∃ k : Nat, i = .int .i64 k ∧ Hid (SeenA l k) ∧ k ≤ l.length ∧ Hid (Below w.heap.size w wr)) (fun i _ _ _ => l.length - (intOf i).toNat)
  case atStart => exact ⟨0, rfl, SeenA.start l, Nat.zero_le _, Below.refl _ _⟩
  case round =>
    obtain ⟨k, rfl, HS, hkl, HB⟩ := hrel
    by_cases hlt : k < l.length
    · have hA := HA.out.below HB.out
      obtain ⟨g, o, rfl, hg, c0, c1⟩ := hA.at hlt
      have hcap := hA.cap.1
      have hcap2 := hA.cap.2
      unfold maxLen at hcap2
      have HA2 := hid hA
      clear hA
      have q1 : (k : Int) < (l.length : Int) := by omega
      have hkk := HK.out l[k] (List.getElem_mem hlt)
      have h1 := hkk.1
      have h2 := hkk.2
      clear hkk
      have HN := hid (fun w' => spec_nf1 l[k].name w' h1)
      have HX := hid (fun w' => Esc.specValue l[k].value w' h2)
      by_cases hn : nf l[k].name.data.toList = 0
      · have b1 : (nf l[k].name.data.toList != 0) = false := by simp [hn]
        have HNM := hid hn
        have HT := hid (fun n => specAttr B (l.take k) (.slice (some ⟨g, o, none⟩) k cap) l[k].name (wr.drewN n) (by rw [List.length_take]; omega) ((HA2.out.take hkl).drew n))
        have hix := idx_has (l.take k) l[k].name
        have hlo := idx_lo (l.take k) l[k].name
        generalize attrIdx (l.take k) l[k].name = ix at *
        by_cases hx : 0 ≤ ix
        · have HV : Hid (acode l = 6) := hid (HS.out.taken hlt hn (by rw [hix]; simpa using hx))
          clear hn hix
          go_wp2_with (go_at_call 40; refine (HN.out _).mono ?_; rintro e w' ⟨rfl, rfl⟩)
          go_quiet ((go_at_call 71; exact Calls.quiet_of_same (HT.out _)))
          go_wp2
          go_ret
          exact ⟨by rw [HV.out]; rfl, below_drewN' HB.out nq⟩
        · by_cases hv : vcode l[k].value.data.toList = 0
          · have HV : Hid (SeenA l (k + 1)) := hid (HS.out.next hlt hn (by rw [hix]; simpa using hx) hv)
            have b2 : (Esc.vcode l[k].value.data.toList != 0) = false := by rw [← vcode_same]; simp [hv]
            clear hn hix hv
            go_wp2_with (go_at_call 40; refine (HN.out _).mono ?_; rintro e w' ⟨rfl, rfl⟩)
            go_quiet ((go_at_call 71; exact Calls.quiet_of_same (HT.out _)))
            go_wp2_with (go_at_call 72; refine (HX.out _).mono ?_; rintro e w' ⟨rfl, rfl⟩)
            exact ⟨⟨k + 1, by simp, HV, by omega, hid (below_drewN' HB.out nq)⟩, by simp [intOf]; omega⟩
          · have HV : Hid (acode l = Esc.vcode l[k].value.data.toList) := hid (HS.out.value hlt hn (by rw [hix]; simpa using hx) hv)
            have b2 : (Esc.vcode l[k].value.data.toList != 0) = true := by rw [← vcode_same]; simpa using hv
            clear hn hix hv
            go_wp2_with (go_at_call 40; refine (HN.out _).mono ?_; rintro e w' ⟨rfl, rfl⟩)
            go_quiet ((go_at_call 71; exact Calls.quiet_of_same (HT.out _)))
            go_wp2_with (go_at_call 72; refine (HX.out _).mono ?_; rintro e w' ⟨rfl, rfl⟩)
            go_ret
            exact ⟨by rw [HV.out]; rfl, below_drewN' HB.out nq⟩
      · have b1 : (nf l[k].name.data.toList != 0) = true := by simpa using hn
        have HV : Hid (acode l = nf l[k].name.data.toList) := hid (HS.out.name hlt hn)
        clear hn
        go_wp2_with (go_at_call 40; refine (HN.out _).mono ?_; rintro e w' ⟨rfl, rfl⟩)
        go_ret
        exact ⟨by rw [HV.out]; rfl, HB.out⟩
    · have HV : Hid (acode l = 0) := hid (HS.out.done hlt)
      go_wp2
      go_ret
      exact ⟨by rw [HV.out]; rfl, HB.out⟩
set_option maxRecDepth 100000 in
set_option maxHeartbeats 1000000 in
theorem specLine (B : Nat) (es : List ElemD) (v : Value) (i : Nat) (S : List Nat) (w : World) (hl : es.length ≤ 40) (hi : i < es.length) (hc : Chain es S) (h1 : top S = (i : Int) - 1) (ha : ElemsAt w B v es) :
    Calls Tryz.prog 42 #[v, .int .i64 i] w fun e w' => e = .returned (.bool (onPath es[i].parent S)) ∧ w' = w := by
  obtain ⟨a, cap, rfl⟩ := ha.slice
  obtain ⟨g, o, vi, rfl, hg, d0, d1, d2, _⟩ := ha.at hi
  have HA := hid ha
  have HC := hid hc
  have H1 := hid h1
  clear ha hc h1 d0 d2
  have q1 : (i : Int) < (es.length : Int) := by omega
  go_enter Tryz.func42, Tryz.ntmps42
  go_wp2
  go_loop [5] (fun x => ∃ S' : List Nat, x = .int .i64 (top S') ∧ Hid (Chain es S' ∧ onPath es[i].parent S = onPath es[i].parent S')) (fun x => (intOf x + 1).toNat)
  case atStart => exact ⟨S, by rw [H1.out], HC.out, rfl⟩
  case round =>
    obtain ⟨S', rfl, HS⟩ := hrel
    cases S' with
    | nil =>
      have HV : Hid (onPath es[i].parent S = false) := hid (by rw [HS.out.2]; rfl)
      have q2 : ¬ (0 : Int) ≤ top [] := by decide
      go_wp2
      go_ret
      exact ⟨by rw [HV.out]; rfl, rfl⟩
    | cons x r =>
      obtain ⟨hx, hp⟩ := chain_get HS.out.1
      have htl := top_lt HS.out.1
      have htg := top_ge r
      have hct := chain_tail HS.out.1
      obtain ⟨g', o', vx, e', hg', c0, c1, c2, _⟩ := HA.out.at hx
      cases e'
      rw [hp] at c1
      clear c0 c2
      have ht : top (x :: r) = (x : Int) := rfl
      rw [ht]
      have q2 : (0 : Int) ≤ (x : Int) := by omega
      have q3 : (x : Int) < (es.length : Int) := by omega
      by_cases he : (x : Int) = es[i].parent
      · have HV : Hid (onPath es[i].parent S = true) := hid (by rw [HS.out.2, onPath_cons]; simp [he])
        have b1 : ((x : Int) == es[i].parent) = true := beq_iff_eq.2 he
        clear he
        go_wp2
        go_ret
        exact ⟨by rw [HV.out]; rfl, rfl⟩
      · have HV : Hid (Chain es r ∧ onPath es[i].parent S = onPath es[i].parent r) := hid ⟨hct, by rw [HS.out.2, onPath_cons]; simp [he]⟩
        have b1 : ((x : Int) == es[i].parent) = false := beq_eq_false_iff_ne.2 he
        clear he hct
        go_wp2
        exact ⟨⟨r, rfl, HV⟩, by simp [intOf]; omega⟩
set_option maxRecDepth 100000 in
set_option maxHeartbeats 1000000 in
theorem specDeep (B : Nat) (es : List ElemD) (v : Value) (S : List Nat) (w : World) (hl : es.length ≤ 40) (hc : Chain es S) (h8 : S.length ≤ 49) (ha : ElemsAt w B v es) :
    Calls Tryz.prog 43 #[v, .int .i64 (top S)] w fun e w' => e = .returned (.int .i64 (S.length : Int)) ∧ w' = w := by
  obtain ⟨a, cap, rfl⟩ := ha.slice
  have HA := hid ha
  have HC := hid hc
  clear ha hc
  go_enter Tryz.func43, Tryz.ntmps43
  go_wp2
  go_loop [1, 5] (fun x y => ∃ (S' : List Nat) (n : Nat), x = .int .i64 (top S') ∧ y = .int .i64 (n : Int) ∧ n + S'.length = S.length ∧ Hid (Chain es S')) (fun x _ => (intOf x + 1).toNat)
  case atStart => exact ⟨S, 0, rfl, rfl, by omega, HC.out⟩
  case round =>
    obtain ⟨S', n, rfl, rfl, hn, HS⟩ := hrel
    cases S' with
    | nil =>
      have hn' : n = S.length := by simpa using hn
      subst hn'
      have q2 : ¬ (0 : Int) ≤ top [] := by decide
      go_wp2
      go_ret
      exact ⟨rfl, rfl⟩
    | cons x r =>
      obtain ⟨hx, hp⟩ := chain_get HS.out
      have htl := top_lt HS.out
      have htg := top_ge r
      have hct := hid (chain_tail HS.out)
      obtain ⟨g', o', vx, e', hg', c0, c1, c2, _⟩ := HA.out.at hx
      cases e'
      rw [hp] at c1
      clear c0 c2
      have ht : top (x :: r) = (x : Int) := rfl
      rw [ht]
      simp only [List.length_cons] at hn
      have q2 : (0 : Int) ≤ (x : Int) := by omega
      have q3 : (x : Int) < (es.length : Int) := by omega
      have q4 : (n : Int) < 50 := by omega
      go_wp2
      exact ⟨⟨r, n + 1, rfl, by go_num, by omega, hct⟩, by simp [intOf]; omega⟩
end Tr
end Go.Proofs.YtgghigfflpbjiaaGreatDoor
