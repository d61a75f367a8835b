/- KidsOf, of the specification and of the program. Condition of the second: the table of entities lies as its initialiser lays it. -/
import Derived.Test.YtlnmegfcecpfmahDoorTrVa
import Derived.Test.YtlnmegfcecpfmahDoorInts
namespace Go.Proofs.YtlnmegfcecpfmahDoor
open Go.RowKit
set_option linter.unusedVariables false
namespace Tr
open Ints (vals IntsAt)
theorem kidVals_eq (l : List Nat) : kidVals l = vals (ints l) := by simp [kidVals, vals, ints]
theorem ints_len (l : List Nat) : (ints l).length = l.length := by simp [ints]
theorem kidsN_le {es : List ElemD} {n j : Nat} : (kidsN es n j).length ≤ n := by
  unfold kidsN
  have := List.length_filter_le (fun i => (es[i]?.map (·.parent)) == some (j : Int)) (List.range n)
  simpa using this
set_option maxRecDepth 100000 in
set_option maxHeartbeats 2000000 in
theorem specKids (B : Nat) (es : List ElemD) (v : Value) (k : Nat) (w : World) (hl : es.length ≤ 1048576) (ha : ElemsAt w B v es) :
    Calls Tryd.prog 43 #[v, .int .i64 (k : Int)] w fun e w' => (∃ u, e = .returned u ∧ w'.ownsRow w.heap.size 2 1 u (kidsN es es.length k).length (kidVals (kidsN es es.length k))) ∧ Below w.heap.size w w' := by
  obtain ⟨a, cap, rfl⟩ := ha.slice
  have HA := hid ha
  clear ha
  obtain ⟨j0, hj, hy0, hy1, hy2⟩ := info_parts infoI64
  go_enter Tryd.func43, Tryd.ntmps43
  go_wp2_with fail
  go_loopw [5, 6] (fun o i wr => ∃ n : Nat, i = .int .i64 n ∧ n ≤ es.length ∧ (∃ a5 c5, o = .slice a5 (kidsN es n k).length c5) ∧ Hid (wr.ownsRow w.heap.size 2 1 o (kidsN es n k).length (kidVals (kidsN es n k))) ∧ Below w.heap.size w wr) (fun _ i _ => es.length - (intOf i).toNat)
  case atStart => exact ⟨0, rfl, Nat.zero_le _, ⟨_, _, rfl⟩, World.ownsRow_made w #[] 0 (Nat.le_refl _) (by unfold maxLen; omega) rfl, (Below.refl _ w).alloc (Nat.le_refl _) _⟩
  case round =>
    obtain ⟨n, rfl, hn, ⟨a5, c5, rfl⟩, HO, hbel⟩ := hrel
    have hz := hbel.size
    by_cases hlt : n < es.length
    · obtain ⟨g, o, va, rfl, hg, c0, c1, c2, _⟩ := (HA.out.below hbel).at hlt
      have q1 : (n : Int) < (es.length : Int) := by omega
      have hle := kidsN_le (es := es) (n := n) (j := k)
      have HN := hid (kidsN_succ (j := k) hlt)
      by_cases he : es[n].parent = (k : Int)
      · have HK : Hid (kidsN es (n + 1) k = kidsN es n k ++ [n]) := hid (by rw [HN.out, if_pos he.symm])
        have b1 : (es[n].parent == (k : Int)) = true := beq_iff_eq.2 he
        clear he HN
        generalize kidsN es n k = ks at *
        have hown := HO.out
        go_wp2_with (at_builtin; go_must (refine wpList_append_own _ rfl _ _ 38 rfl w.heap.size 2 j0 (.int .i64 0) 1 8 Tryd.underlying38 hj hy0 hy1 hy2 rfl (by decide) _ _ _ rfl (hown.alloc _) ⟨wr.heap.size, 0, none⟩ 1 1 [.int .i64 (n : Int)] rfl rfl (cell_one_new _ _ _) (by simp [Value.oneCell']) (by unfold maxLen; omega) (by omega) (by simp; omega) ?_); intro v' w2 hown' hgrow _; obtain ⟨g9, c9, rfl⟩ := ownsRow_succ hown')
        have hB2 : Below w.heap.size w w2 := (hbel.alloc hz _).grown hgrow (by simp; omega) (fun b e => (own_lt hown e).1)
        refine ⟨⟨n + 1, by simp, by omega, ⟨some ⟨g9, 0, none⟩, c9, by rw [HK.out, List.length_append]; rfl⟩, hid ?_, hB2⟩, by simp [intOf]; omega⟩
        rw [HK.out]
        simpa [kidVals] using hown'
      · have HK : Hid (kidsN es (n + 1) k = kidsN es n k) := hid (by rw [HN.out, if_neg (fun e => he e.symm), List.append_nil])
        have b1 : (es[n].parent == (k : Int)) = false := beq_eq_false_iff_ne.2 he
        clear he HN
        go_wp2
        refine ⟨⟨n + 1, by simp, by omega, ⟨a5, c5, by rw [HK.out]⟩, hid ?_, hbel⟩, by simp [intOf]; omega⟩
        rw [HK.out]
        exact HO.out
    · have hne : n = es.length := by omega
      have HE := hid hne
      clear hne
      go_wp2
      go_ret
      refine ⟨⟨_, rfl, ?_⟩, hbel⟩
      rw [← HE.out]
      exact HO.out
def kidCode (es : List ElemD) (at' : Int) : Int := if fault es ≠ 0 then fault es else if 0 ≤ at' ∧ at' < es.length then 0 else 3
def kidList (es : List ElemD) (at' : Int) : List Int := if kidCode es at' = 0 then ints (kidsN es es.length at'.toNat) else []
theorem kid_fault {es : List ElemD} {at' : Int} (h : fault es ≠ 0) : kidCode es at' = fault es ∧ kidList es at' = [] := by
  have e : kidCode es at' = fault es := by unfold kidCode; rw [if_pos h]
  exact ⟨e, by unfold kidList; rw [if_neg (by rw [e]; exact h)]⟩
theorem kid_range {es : List ElemD} {at' : Int} (h : fault es = 0) (h2 : ¬ (0 ≤ at' ∧ at' < es.length)) : kidCode es at' = 3 ∧ kidList es at' = [] := by
  have e : kidCode es at' = 3 := by unfold kidCode; rw [if_neg (by simp [h]), if_neg h2]
  exact ⟨e, by unfold kidList; rw [if_neg (by rw [e]; decide)]⟩
theorem kid_ok {es : List ElemD} {k : Nat} (h : fault es = 0) (hk : k < es.length) : kidCode es k = 0 ∧ kidList es k = ints (kidsN es es.length k) := by
  have e : kidCode es k = 0 := by unfold kidCode; rw [if_neg (by simp [h]), if_pos (by omega)]
  exact ⟨e, by unfold kidList; rw [if_pos e, Int.toNat_natCast]⟩
theorem kidList_len {es : List ElemD} {at' : Int} : (kidList es at').length ≤ es.length := by
  unfold kidList
  split
  · rw [ints_len]; exact kidsN_le
  · exact Nat.zero_le _
theorem ret_ints {c d : Int} {v : Value} (h : c = d) : Ending.returned (.agg #[.int .i64 c, v]) = .returned (.agg #[.int .i64 d, v]) := by rw [h]
theorem own_set {w : World} {B n b c : Nat} {v u : Value} {xs : List Value} (h : w.ownsRow B 2 1 v n xs) (hb : b < B) : (w.setCell ⟨b, c, none⟩ u).ownsRow B 2 1 v n xs := ownsRow_setCell_below h (a := ⟨b, c, none⟩) hb u
theorem own_mono {w : World} {B B' n : Nat} {e : TypeId} {sz : Nat} {v : Value} {xs : List Value} (h : w.ownsRow B e sz v n xs) (hb : B' ≤ B) : w.ownsRow B' e sz v n xs := by
  refine ⟨h.1, ?_⟩
  rcases h.2 with h | ⟨g, cap, cur, rfl, h1, r⟩
  · exact .inl h
  · exact .inr ⟨g, cap, cur, rfl, Nat.le_trans hb h1, r⟩
/-- What KidsOf answers. -/
def KidsPost (es : List ElemD) (at' : Int) (w : World) (e : Ending) (w' : World) : Prop :=
  (∃ u, e = .returned (.agg #[.int .i64 (kidCode es at'), u]) ∧ w'.ownsRow (w.heap.size + 1) 2 1 u (kidList es at').length (vals (kidList es at'))) ∧ Below w.heap.size w w'
set_option maxRecDepth 100000 in
set_option maxHeartbeats 2000000 in
theorem specKidsOf (B : Nat) (es : List ElemD) (v : Value) (at' : Int) (w : World) (hl : SmallE 1048576 es) (hk : OkE es) (ha : ElemsAt w B v es) :
    Calls Tryd.prog 18 #[v, .int .i64 at'] w (KidsPost es at' w) := by
  obtain ⟨a, cap, rfl⟩ := ha.slice
  have hlen := hl.1
  have hb0 : Below w.heap.size w (w.alloc (.cells #[.int .i64 0, .slice none 0 0] 40)) := (Below.refl _ w).alloc (Nat.le_refl _) _
  have HF := hid (specFault1 B es _ (w.alloc (.cells #[.int .i64 0, .slice none 0 0] 40)) (by omega) hk (ha.below hb0))
  have HI := hid (fun w' => specIn at' 0 ((es.length : Int) - 1) w')
  have HA := hid ha
  clear ha hk hl
  unfold KidsPost
  go_enter Tryd.func18, Tryd.ntmps18
  go_wp2_with fail
  refine HF.out.mono ?_
  rintro e w1 ⟨rfl, hb1⟩
  have B1 : Below w.heap.size w w1 := hb0.trans (hb1.mono (by simp))
  simp only [World.size_alloc] at hb1
  have l1 : w.heap.size < w1.heap.size := by have := hb1.size; simp at this; omega
  have r0 := kept_cell hb1 (b := w.heap.size) (o := 0) (v := .int .i64 0) (by omega) (by go_simp)
  have r1 := kept_cell hb1 (b := w.heap.size) (o := 1) (v := .slice none 0 0) (by omega) (by go_simp)
  have f0 := kept_free hb1 (b := w.heap.size) (o := 0) (by omega) (by go_simp)
  have f1 := kept_free hb1 (b := w.heap.size) (o := 1) (by omega) (by go_simp)
  by_cases hf : fault es = 0
  · have b1 : (fault es != 0) = false := by simp [hf]
    by_cases hr : 0 ≤ at' ∧ at' < (es.length : Int)
    · obtain ⟨k, rfl⟩ : ∃ k : Nat, at' = (k : Int) := ⟨at'.toNat, by omega⟩
      have hk : k < es.length := by omega
      have e1 : (decide (0 ≤ (k : Int)) && decide ((k : Int) ≤ (es.length : Int) - 1)) = true := by simp; omega
      have HI2 : Hid (∀ w', Calls Tryd.prog 42 #[.int .i64 (k : Int), .int .i64 0, .int .i64 ((es.length : Int) - 1)] w' fun e w1 => e = .returned (.bool true) ∧ w1 = w') := hid (fun w' => by have h := HI.out w'; rw [e1] at h; exact h)
      have HV := hid (kid_ok hf hk)
      have HKK := hid (specKids B es _ k w1 (by omega) (HA.out.below B1))
      clear HI e1 hr hf
      go_wp2_with (go_at_call 42; refine (HI2.out _).mono ?_; rintro e w' ⟨rfl, rfl⟩)
      refine HKK.out.mono ?_
      rintro e w2 ⟨⟨u, rfl, ho⟩, hb2⟩
      obtain ⟨x5, c5, rfl⟩ := Ints.owns_slice ho
      have HO := hid ho
      clear ho
      have B2 := B1.trans (hb2.mono B1.size)
      have l2 : w.heap.size < w2.heap.size := by have := hb2.size; omega
      have s0 := kept_cell hb2 (by omega) r0
      have s1 := kept_cell hb2 (by omega) r1
      have t0 := kept_free hb2 (by omega) f0
      have t1 := kept_free hb2 (by omega) f1
      go_wp2
      refine bodyPost_ret (v := .agg #[.int .i64 0, .slice x5 (kidsN es es.length k).length c5]) (by simp [results, Tryd.results18, go_sem, s0, s1]) rfl ⟨⟨_, ret_ints HV.out.1.symm, ?_⟩, setB (setB B2 (Nat.le_refl _) _) (Nat.le_refl _) _⟩
      rw [HV.out.2, ints_len, ← kidVals_eq]
      exact own_set (own_set (own_mono HO.out (by omega)) (by omega)) (by omega)
    · have HV := hid (kid_range hf hr)
      have e1 : (decide (0 ≤ at') && decide (at' ≤ (es.length : Int) - 1)) = false := by
        rw [← Bool.not_eq_true]; intro e; apply hr; simp at e; omega
      have HI2 : Hid (∀ w', Calls Tryd.prog 42 #[.int .i64 at', .int .i64 0, .int .i64 ((es.length : Int) - 1)] w' fun e w1 => e = .returned (.bool false) ∧ w1 = w') := hid (fun w' => by have h := HI.out w'; rw [e1] at h; exact h)
      clear HI e1 hr hf
      go_wp2_with (go_at_call 42; refine (HI2.out _).mono ?_; rintro e w' ⟨rfl, rfl⟩)
      refine bodyPost_ret (v := .agg #[.int .i64 3, .slice none 0 0]) (by simp [results, Tryd.results18, go_sem, r0, r1]) rfl ⟨⟨_, ret_ints HV.out.1.symm, ?_⟩, setB (setB B1 (Nat.le_refl _) _) (Nat.le_refl _) _⟩
      rw [HV.out.2]
      exact World.ownsRow_nil _ _ _ _
  · have HV := hid (kid_fault (at' := at') hf)
    have b1 : (fault es != 0) = true := by simpa using hf
    clear hf HI
    go_wp2
    refine bodyPost_ret (v := .agg #[.int .i64 (fault es), .slice none 0 0]) (by simp [results, Tryd.results18, go_sem, r0, r1]) rfl ⟨⟨_, ret_ints HV.out.1.symm, ?_⟩, setB (setB B1 (Nat.le_refl _) _) (Nat.le_refl _) _⟩
    rw [HV.out.2]
    exact World.ownsRow_nil _ _ _ _
set_option maxRecDepth 100000 in
set_option maxHeartbeats 2000000 in
theorem implKidsOf (es : List ElemD) (v : Value) (at' : Int) (w : World) (hl : SmallE 1048576 es) (hk : OkE es) (ha : ElemsAt w 0 v es) (he : Esc.Ent w) (hw : 0 < w.heap.size) :
    Calls Tryd.prog 19 #[v, .int .i64 at'] w (KidsPost es at' w) := by
  obtain ⟨a, cap, rfl⟩ := ha.slice
  have hlen := hl.1
  have hb0 : Below w.heap.size w (w.alloc (.cells #[.int .i64 0, .slice none 0 0] 40)) := (Below.refl _ w).alloc (Nat.le_refl _) _
  have HF := hid (elemTree es _ (w.alloc (.cells #[.int .i64 0, .slice none 0 0] 40)) hl hk (ha.below hb0) (Esc.Ent.below he hb0 hw) (by simp))
  clear ha hl hk
  unfold KidsPost
  go_enter Tryd.func19, Tryd.ntmps19
  go_wp2_with fail
  refine HF.out.mono ?_
  rintro e w1 ⟨⟨v1, rfl, hv1, hv2⟩, hb1⟩
  have B1 : Below w.heap.size w w1 := hb0.trans (hb1.mono (by simp))
  simp only [World.size_alloc] at hb1
  have l1 : w.heap.size < w1.heap.size := by have := hb1.size; simp at this; omega
  have r0 := kept_cell hb1 (b := w.heap.size) (o := 0) (v := .int .i64 0) (by omega) (by go_simp)
  have r1 := kept_cell hb1 (b := w.heap.size) (o := 1) (v := .slice none 0 0) (by omega) (by go_simp)
  have f0 := kept_free hb1 (b := w.heap.size) (o := 0) (by omega) (by go_simp)
  have f1 := kept_free hb1 (b := w.heap.size) (o := 1) (by omega) (by go_simp)
  by_cases hf : fault es = 0
  · have b1 : (fault es != 0) = false := by simp [hf]
    obtain ⟨T, hT, hI⟩ := hv2 hf
    obtain ⟨at4, ct4, rfl⟩ := hT.slice
    rw [World.size_alloc] at hT
    have HT := hid hT
    have HTI := hid hI
    clear hT hI hv1 hv2
    have HH := hid (fun w' => hasPlace at4 es.length ct4 at' w' (by omega))
    by_cases hr : 0 ≤ at' ∧ at' < (es.length : Int)
    · obtain ⟨k, rfl⟩ : ∃ k : Nat, at' = (k : Int) := ⟨at'.toNat, by omega⟩
      have hk : k < es.length := by omega
      have e1 : (decide (0 ≤ (k : Int)) && decide ((k : Int) < (es.length : Int))) = true := by simp; omega
      have HH2 : Hid (∀ w', Calls Tryd.prog 44 #[.slice at4 es.length ct4, .int .i64 (k : Int)] w' fun e w1 => e = .returned (.bool true) ∧ w1 = w') := hid (fun w' => by have h := HH.out w'; rw [e1] at h; exact h)
      have HV := hid (kid_ok hf hk)
      clear HH e1 hr hf
      have q1 : (k : Int) < (es.length : Int) := by omega
      obtain ⟨g, rfl, _, hB, hg, c0, c1, c2, c3', c4, c5, _⟩ := HT.out.at hk
      have ho := HT.out.kids k hk
      rw [HTI.out.kids k hk] at ho
      generalize (T k).kv = kv at *
      obtain ⟨x5, y5, rfl⟩ := Ints.owns_slice ho
      have HO := hid ho
      clear ho c0 c1 c2 c3' c4
      go_wp2_with (go_at_call 44; refine (HH2.out _).mono ?_; rintro e w' ⟨rfl, rfl⟩)
      refine bodyPost_ret (v := .agg #[.int .i64 0, .slice x5 (kidsN es es.length k).length y5]) (by simp [results, Tryd.results19, go_sem, r0, r1]) rfl ⟨⟨_, ret_ints HV.out.1.symm, ?_⟩, setB (setB B1 (Nat.le_refl _) _) (Nat.le_refl _) _⟩
      rw [HV.out.2, ints_len, ← kidVals_eq]
      exact own_set (own_set HO.out (by omega)) (by omega)
    · have HV := hid (kid_range hf hr)
      have e1 : (decide (0 ≤ at') && decide (at' < (es.length : Int))) = false := by
        rw [← Bool.not_eq_true]; intro e; apply hr; simpa using e
      have HH2 : Hid (∀ w', Calls Tryd.prog 44 #[.slice at4 es.length ct4, .int .i64 at'] w' fun e w1 => e = .returned (.bool false) ∧ w1 = w') := hid (fun w' => by have h := HH.out w'; rw [e1] at h; exact h)
      clear HH e1 hr hf
      go_wp2_with (go_at_call 44; refine (HH2.out _).mono ?_; rintro e w' ⟨rfl, rfl⟩)
      refine bodyPost_ret (v := .agg #[.int .i64 3, .slice none 0 0]) (by simp [results, Tryd.results19, go_sem, r0, r1]) rfl ⟨⟨_, ret_ints HV.out.1.symm, ?_⟩, setB (setB B1 (Nat.le_refl _) _) (Nat.le_refl _) _⟩
      rw [HV.out.2]
      exact World.ownsRow_nil _ _ _ _
  · have HV := hid (kid_fault (at' := at') hf)
    have b1 : (fault es != 0) = true := by simpa using hf
    obtain rfl := hv1 hf
    clear hf hv1 hv2
    go_wp2
    refine bodyPost_ret (v := .agg #[.int .i64 (fault es), .slice none 0 0]) (by simp [results, Tryd.results19, go_sem, r0, r1]) rfl ⟨⟨_, ret_ints HV.out.1.symm, ?_⟩, setB (setB B1 (Nat.le_refl _) _) (Nat.le_refl _) _⟩
    rw [HV.out.2]
    exact World.ownsRow_nil _ _ _ _
end Tr
end Go.Proofs.YtlnmegfcecpfmahDoor
