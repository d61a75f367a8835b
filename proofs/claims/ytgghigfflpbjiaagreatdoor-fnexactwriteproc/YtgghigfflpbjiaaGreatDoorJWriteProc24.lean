/- Laid together: TrK, WrS. -/
import Derived.Test.YtgghigfflpbjiaaGreatDoorJWriteProc23
/- KidsOf, of the specification and of the program. Condition of the second: the table of entities lies as its initialiser lays it. -/
namespace Go.Proofs.YtgghigfflpbjiaaGreatDoor
open Go.RowKit
set_option linter.unusedVariables false
namespace Tr
open Ints (vals IntsAt)
theorem kidVals_eq (l : List Nat) : kidVals l = vals (ints l) := by simp [kidVals, vals, ints]
theorem ints_len (l : List Nat) : (ints l).length = l.length := by simp [ints]
theorem kidsN_le {es : List ElemD} {n j : Nat} : (kidsN es n j).length ≤ n := by
  unfold kidsN
  have := List.length_filter_le (fun i => (es[i]?.map (·.parent)) == some (j : Int)) (List.range n)
  simpa using this
set_option maxRecDepth 100000 in
set_option maxHeartbeats 2000000 in
theorem specKids (B : Nat) (es : List ElemD) (v : Value) (k : Nat) (w : World) (hl : es.length ≤ 1048576) (ha : ElemsAt w B v es) :
    Calls Tryz.prog 87 #[v, .int .i64 (k : Int)] w fun e w' => (∃ u, e = .returned u ∧ w'.ownsRow w.heap.size 2 1 u (kidsN es es.length k).length (kidVals (kidsN es es.length k))) ∧ Below w.heap.size w w' := by
  obtain ⟨a, cap, rfl⟩ := ha.slice
  have HA := hid ha
  clear ha
  obtain ⟨j0, hj, hy0, hy1, hy2⟩ := info_parts infoI64
  go_enter Tryz.func87, Tryz.ntmps87
  go_wp2_with fail
  go_loopw [5, 6] (fun o i wr => ∃ n : Nat, i = .int .i64 n ∧ n ≤ es.length ∧ (∃ a5 c5, o = .slice a5 (kidsN es n k).length c5) ∧ Hid (wr.ownsRow w.heap.size 2 1 o (kidsN es n k).length (kidVals (kidsN es n k))) ∧ Below w.heap.size w wr) (fun _ i _ => es.length - (intOf i).toNat)
  case atStart => exact ⟨0, rfl, Nat.zero_le _, ⟨_, _, rfl⟩, World.ownsRow_made w #[] 0 (Nat.le_refl _) (by unfold maxLen; omega) rfl, (Below.refl _ w).alloc (Nat.le_refl _) _⟩
  case round =>
    obtain ⟨n, rfl, hn, ⟨a5, c5, rfl⟩, HO, hbel⟩ := hrel
    have hz := hbel.size
    by_cases hlt : n < es.length
    · obtain ⟨g, o, va, rfl, hg, c0, c1, c2, _⟩ := (HA.out.below hbel).at hlt
      have q1 : (n : Int) < (es.length : Int) := by omega
      have hle := kidsN_le (es := es) (n := n) (j := k)
      have HN := hid (kidsN_succ (j := k) hlt)
      by_cases he : es[n].parent = (k : Int)
      · have HK : Hid (kidsN es (n + 1) k = kidsN es n k ++ [n]) := hid (by rw [HN.out, if_pos he.symm])
        have b1 : (es[n].parent == (k : Int)) = true := beq_iff_eq.2 he
        clear he HN
        generalize kidsN es n k = ks at *
        have hown := HO.out
        go_wp2_with (at_builtin; go_must (refine wpList_append_own _ rfl _ _ 108 rfl w.heap.size 2 j0 (.int .i64 0) 1 8 Tryz.underlying108 hj hy0 hy1 hy2 rfl (by decide) _ _ _ rfl (hown.alloc _) ⟨wr.heap.size, 0, none⟩ 1 1 [.int .i64 (n : Int)] rfl rfl (cell_one_new _ _ _) (by simp [Value.oneCell']) (by unfold maxLen; omega) (by omega) (by simp; omega) ?_); intro v' w2 hown' hgrow _; obtain ⟨g9, c9, rfl⟩ := ownsRow_succ hown')
        have hB2 : Below w.heap.size w w2 := (hbel.alloc hz _).grown hgrow (by simp; omega) (fun b e => (own_lt hown e).1)
        refine ⟨⟨n + 1, by simp, by omega, ⟨some ⟨g9, 0, none⟩, c9, by rw [HK.out, List.length_append]; rfl⟩, hid ?_, hB2⟩, by simp [intOf]; omega⟩
        rw [HK.out]
        simpa [kidVals] using hown'
      · have HK : Hid (kidsN es (n + 1) k = kidsN es n k) := hid (by rw [HN.out, if_neg (fun e => he e.symm), List.append_nil])
        have b1 : (es[n].parent == (k : Int)) = false := beq_eq_false_iff_ne.2 he
        clear he HN
        go_wp2
        refine ⟨⟨n + 1, by simp, by omega, ⟨a5, c5, by rw [HK.out]⟩, hid ?_, hbel⟩, by simp [intOf]; omega⟩
        rw [HK.out]
        exact HO.out
    · have hne : n = es.length := by omega
      have HE := hid hne
      clear hne
      go_wp2
      go_ret
      refine ⟨⟨_, rfl, ?_⟩, hbel⟩
      rw [← HE.out]
      exact HO.out
def kidCode (es : List ElemD) (at' : Int) : Int := if fault es ≠ 0 then fault es else if 0 ≤ at' ∧ at' < es.length then 0 else 3
def kidList (es : List ElemD) (at' : Int) : List Int := if kidCode es at' = 0 then ints (kidsN es es.length at'.toNat) else []
theorem kid_fault {es : List ElemD} {at' : Int} (h : fault es ≠ 0) : kidCode es at' = fault es ∧ kidList es at' = [] := by
  have e : kidCode es at' = fault es := by unfold kidCode; rw [if_pos h]
  exact ⟨e, by unfold kidList; rw [if_neg (by rw [e]; exact h)]⟩
theorem kid_range {es : List ElemD} {at' : Int} (h : fault es = 0) (h2 : ¬ (0 ≤ at' ∧ at' < es.length)) : kidCode es at' = 3 ∧ kidList es at' = [] := by
  have e : kidCode es at' = 3 := by unfold kidCode; rw [if_neg (by simp [h]), if_neg h2]
  exact ⟨e, by unfold kidList; rw [if_neg (by rw [e]; decide)]⟩
theorem kid_ok {es : List ElemD} {k : Nat} (h : fault es = 0) (hk : k < es.length) : kidCode es k = 0 ∧ kidList es k = ints (kidsN es es.length k) := by
  have e : kidCode es k = 0 := by unfold kidCode; rw [if_neg (by simp [h]), if_pos (by omega)]
  exact ⟨e, by unfold kidList; rw [if_pos e, Int.toNat_natCast]⟩
theorem kidList_len {es : List ElemD} {at' : Int} : (kidList es at').length ≤ es.length := by
  unfold kidList
  split
  · rw [ints_len]; exact kidsN_le
  · exact Nat.zero_le _
theorem ret_ints {c d : Int} {v : Value} (h : c = d) : Ending.returned (.agg #[.int .i64 c, v]) = .returned (.agg #[.int .i64 d, v]) := by rw [h]
theorem own_set {w : World} {B n b c : Nat} {v u : Value} {xs : List Value} (h : w.ownsRow B 2 1 v n xs) (hb : b < B) : (w.setCell ⟨b, c, none⟩ u).ownsRow B 2 1 v n xs := ownsRow_setCell_below h (a := ⟨b, c, none⟩) hb u
theorem own_mono {w : World} {B B' n : Nat} {e : TypeId} {sz : Nat} {v : Value} {xs : List Value} (h : w.ownsRow B e sz v n xs) (hb : B' ≤ B) : w.ownsRow B' e sz v n xs := by
  refine ⟨h.1, ?_⟩
  rcases h.2 with h | ⟨g, cap, cur, rfl, h1, r⟩
  · exact .inl h
  · exact .inr ⟨g, cap, cur, rfl, Nat.le_trans hb h1, r⟩
/-- What KidsOf answers. -/
def KidsPost (es : List ElemD) (at' : Int) (w : World) (e : Ending) (w' : World) : Prop :=
  (∃ u, e = .returned (.agg #[.int .i64 (kidCode es at'), u]) ∧ w'.ownsRow (w.heap.size + 1) 2 1 u (kidList es at').length (vals (kidList es at'))) ∧ Below w.heap.size w w'
end Tr
end Go.Proofs.YtgghigfflpbjiaaGreatDoor
/- What is written of a tree, as the specification writes it. -/
namespace Go.Proofs.YtgghigfflpbjiaaGreatDoor
open Go.RowKit
set_option linter.unusedVariables false
namespace Tr
open Esc (esc escAll escAll_len)
theorem bytes_of (s : ByteArray) : (ByteArray.mk s.data.toList.toArray) = s := by cases s; simp
theorem str_head (t : ByteArray) : Value.string (ByteArray.mk #[60] ++ t) = .string ⟨(60 :: t.data.toList).toArray⟩ := by
  apply congrArg Value.string; apply ByteArray.ext; simp
theorem str_piece (acc : List UInt8) (a : AttrD) : Value.string (ByteArray.mk acc.toArray ++ ByteArray.mk #[32] ++ a.name ++ ByteArray.mk #[61, 34] ++ ByteArray.mk (escAll a.value.data.toList).toArray ++ ByteArray.mk #[34]) = .string ⟨(acc ++ piece a).toArray⟩ := by
  apply congrArg Value.string; apply ByteArray.ext; simp [piece]
theorem str_two (acc : List UInt8) (l : Array UInt8) : Value.string (ByteArray.mk acc.toArray ++ ByteArray.mk l) = .string ⟨(acc ++ l.toList).toArray⟩ := by
  apply congrArg Value.string; apply ByteArray.ext; simp
theorem str_end (acc : List UInt8) (t : ByteArray) : Value.string (ByteArray.mk acc.toArray ++ ByteArray.mk #[60, 47] ++ t ++ ByteArray.mk #[62]) = .string ⟨(acc ++ ([60, 47] ++ t.data.toList ++ [62])).toArray⟩ := by
  apply congrArg Value.string; apply ByteArray.ext; simp
theorem pieces_snoc {l : List AttrD} {j : Nat} (h : j < l.length) : pieces (l.take (j + 1)) = pieces (l.take j) ++ piece l[j] := by
  unfold pieces
  rw [List.take_succ_eq_append_getElem h, List.flatMap_append]
  simp
theorem ret_str {l m : List UInt8} (h : l = m) : Ending.returned (.string ⟨l.toArray⟩) = .returned (.string ⟨m.toArray⟩) := by rw [h]
theorem len_size' (s : ByteArray) : s.data.toList.length = s.size := by simp
set_option maxRecDepth 100000 in
set_option maxHeartbeats 4000000 in
theorem specMark (B : Nat) (es : List ElemD) (v : Value) (k : Nat) (w : World) (hG : Good es) (hk : k < es.length) (ha : ElemsAt w B v es) :
    Calls Tryz.prog 55 #[v, .int .i64 (k : Int)] w fun e w' => e = .returned (.string ⟨(markK es k).toArray⟩) ∧ Below w.heap.size w w' := by
  obtain ⟨a, cap, rfl⟩ := ha.slice
  have hle := hG.le
  obtain ⟨g, o, va, rfl, hg, c0, c1, c2, hva⟩ := ha.at hk
  obtain ⟨b, e2, rfl⟩ := hva.slice
  have HA := hid ha
  have HVA := hid hva
  have HG := hid hG
  have hl6 := hG.len k hk
  have ht8 : es[k].tag.size ≤ 8 := by rw [← len_size']; exact nf_len (hG.tag k hk)
  have q0 : (k : Int) < (es.length : Int) := by omega
  clear ha hva hG
  go_enter Tryz.func55, Tryz.ntmps55
  go_wp2
  go_loopw [6, 7] (fun s i wr => ∃ (j : Nat) (acc : List UInt8), i = .int .i64 j ∧ s = .string ⟨acc.toArray⟩ ∧ j ≤ es[k].attrs.length ∧ acc.length ≤ 9 + 252 * j ∧ Hid (acc = 60 :: es[k].tag.data.toList ++ pieces (es[k].attrs.take j)) ∧ Below w.heap.size w wr) (fun _ i _ => es[k].attrs.length - (intOf i).toNat)
  case atStart => exact ⟨0, _, rfl, str_head _, Nat.zero_le _, by simp; omega, hid (by simp [pieces]), Below.refl _ _⟩
  case round =>
    obtain ⟨j, acc, rfl, rfl, hj, hacc, HC, hbel⟩ := hrel
    have d0 := kept_cell hbel hg c0
    have d2 := kept_cell hbel hg c2
    by_cases hlt : j < es[k].attrs.length
    · obtain ⟨g3, o3, rfl, hg3, n0, n1⟩ := (HVA.out.below hbel).at hlt
      have q1 : (j : Int) < (es[k].attrs.length : Int) := by omega
      have hat := HG.out.attrs hk es[k].attrs[j] (List.getElem_mem hlt)
      have hn8 : es[k].attrs[j].name.size ≤ 8 := by rw [← len_size']; exact nf_len hat.1
      have hv40 : es[k].attrs[j].value.size ≤ 40 := by rw [← len_size']; exact v_len hat.2
      have hel := escAll_len es[k].attrs[j].value.data.toList
      rw [len_size'] at hel
      have HX := hid (fun w' => Esc.specEscape es[k].attrs[j].value w' hv40)
      have HC2 : Hid (acc ++ piece es[k].attrs[j] = 60 :: es[k].tag.data.toList ++ pieces (es[k].attrs.take (j + 1))) := hid (by rw [pieces_snoc hlt, HC.out]; simp)
      have hpl := HG.out.pl hk es[k].attrs[j] (List.getElem_mem hlt)
      have HPL := hid hpl
      clear hat hpl
      go_wp2
      go_quiet ((go_at_call 86; exact Calls.quiet_of_same (HX.out _)))
      go_wp2
      exact ⟨⟨j + 1, acc ++ piece es[k].attrs[j], by simp, str_piece _ _, by omega, by rw [List.length_append]; have := HPL.out; omega, HC2, Ints.below_drewN hbel nq⟩, by simp [intOf]; omega⟩
    · have HKK := hid (specKids B es _ k wr (by omega) (HA.out.below hbel))
      have HAll : Hid (acc = 60 :: es[k].tag.data.toList ++ pieces es[k].attrs) := hid (by rw [HC.out, List.take_of_length_le (by omega)])
      by_cases he : (kidsN es es.length k).length = 0
      · have HV : Hid (markK es k = acc ++ #[47, 62].toList) := hid (by
          unfold markK markB
          have : (kidsA es k).isEmpty = true := by unfold kidsA; exact List.isEmpty_iff.2 (List.length_eq_zero_iff.1 he)
          rw [this, if_pos rfl, EJ_eq hk, HAll.out])
        have b1 : (((kidsN es es.length k).length : Int) == 0) = true := beq_iff_eq.2 (by omega)
        clear he
        go_wp2_with (go_at_call 87; refine HKK.out.mono ?_; rintro e w2 ⟨⟨u, rfl, ho⟩, hb2⟩; obtain ⟨x5, y5, rfl⟩ := Ints.owns_slice ho; clear ho)
        go_ret
        exact ⟨by rw [HV.out]; exact congrArg Ending.returned (str_two acc #[47, 62]), hbel.trans (hb2.mono hbel.size)⟩
      · have HV : Hid (markK es k = acc ++ #[62].toList) := hid (by
          unfold markK markB
          have : (kidsA es k).isEmpty = false := by unfold kidsA; exact List.isEmpty_eq_false_iff.2 (fun e => he (by rw [e]; rfl))
          rw [this, if_neg (by decide), EJ_eq hk, HAll.out])
        have b1 : (((kidsN es es.length k).length : Int) == 0) = false := beq_eq_false_iff_ne.2 (by omega)
        clear he
        go_wp2_with (go_at_call 87; refine HKK.out.mono ?_; rintro e w2 ⟨⟨u, rfl, ho⟩, hb2⟩; obtain ⟨x5, y5, rfl⟩ := Ints.owns_slice ho; clear ho)
        go_ret
        exact ⟨by rw [HV.out]; exact congrArg Ending.returned (str_two acc #[62]), hbel.trans (hb2.mono hbel.size)⟩
theorem wr_leaf {es : List ElemD} {f k : Nat} (h : (kidsA es k).isEmpty = true) : wrF es (f + 1) k = markK es k := by rw [wrF, if_pos h, List.append_nil]
theorem wr_node {es : List ElemD} {f k : Nat} (h : (kidsA es k).isEmpty = false) : wrF es (f + 1) k = markK es k ++ ((kidsA es k).flatMap (wrF es f) ++ endB (EJ es k)) := by rw [wrF, if_neg (by simp [h])]
set_option maxRecDepth 100000 in
set_option maxHeartbeats 4000000 in
theorem specWrite (B : Nat) (es : List ElemD) (hG : Good es) : ∀ (f k : Nat) (v : Value) (w : World), k < es.length → es.length - k ≤ f → f ≤ 40 → ElemsAt w B v es →
    Calls Tryz.prog 56 #[v, .int .i64 (k : Int)] w fun e w' => e = .returned (.string ⟨(wrF es f k).toArray⟩) ∧ Below w.heap.size w w'
  | 0, k, v, w, hk, hf, _, ha => by omega
  | f + 1, k, v, w, hk, hf, hf40, ha => by
    have HIH := hid (fun c v w (h1 : c < es.length) (h2 : es.length - c ≤ f) (h3 : ElemsAt w B v es) => specWrite B es hG f c v w h1 h2 (by omega) h3)
    obtain ⟨a, cap, rfl⟩ := ha.slice
    have hle := hG.le
    obtain ⟨g, o, va, rfl, hg, c0, c1, c2, hva⟩ := ha.at hk
    obtain ⟨b, e2, rfl⟩ := hva.slice
    have HA := hid ha
    have HG := hid hG
    have HM := hid (specMark B es _ k w hG hk ha)
    have hml := mark_len hG hk
    have ht8 : es[k].tag.size ≤ 8 := by rw [← len_size']; exact nf_len (hG.tag k hk)
    have q0 : (k : Int) < (es.length : Int) := by omega
    clear ha hva c1 c2
    generalize hmk : markK es k = mk at *
    have HMK := hid hmk
    clear hmk
    go_enter Tryz.func56, Tryz.ntmps56
    go_wp2_with fail
    refine HM.out.mono ?_
    rintro e w1 ⟨rfl, hb1⟩
    go_wp2_with fail
    refine (specKids B es _ k w1 (by omega) (HA.out.below hb1)).mono ?_
    rintro e w2 ⟨⟨u, rfl, ho⟩, hb2⟩
    have B2 := hb1.trans (hb2.mono hb1.size)
    have hkl := kidsN_le (es := es) (n := es.length) (j := k)
    rw [← ints_len, kidVals_eq] at ho
    have HI := hid (Ints.IntsAt.of ho)
    rw [ints_len] at ho
    obtain ⟨x5, y5, rfl⟩ := Ints.owns_slice ho
    clear ho HM
    have d0 := kept_cell B2 hg c0
    have hg2 := Nat.lt_of_lt_of_le hg B2.size
    by_cases he : (kidsN es es.length k).length = 0
    · have HV : Hid (wrF es (f + 1) k = mk) := hid (by
        rw [wr_leaf (by unfold kidsA; exact List.isEmpty_iff.2 (List.length_eq_zero_iff.1 he)), HMK.out])
      have b1 : (((kidsN es es.length k).length : Int) == 0) = true := beq_iff_eq.2 (by omega)
      clear he
      go_wp2
      go_ret
      exact ⟨by rw [HV.out]; rfl, B2⟩
    · have HV : Hid (wrF es (f + 1) k = mk ++ ((kidsN es es.length k).flatMap (wrF es f) ++ endB es[k])) := hid (by
        rw [wr_node (by unfold kidsA; exact List.isEmpty_eq_false_iff.2 (fun e => he (by rw [e]; rfl))), HMK.out, EJ_eq hk]; rfl)
      have b1 : (((kidsN es es.length k).length : Int) == 0) = false := beq_eq_false_iff_ne.2 (by omega)
      have HW : Hid (∀ m, (((kidsN es es.length k).take m).flatMap (wrF es f)).length ≤ f * 61400) := hid (fun m => wr_kids_len HG.out f (k := k) (m := m))
      have HKM : Hid (∀ c ∈ kidsN es es.length k, k < c ∧ c < es.length) := hid (fun c hc => kid_gt HG.out hc)
      clear he
      generalize kidsN es es.length k = ks at *
      go_wp2
      go_loopw [6, 8] (fun s i wr => ∃ (j : Nat) (acc : List UInt8), i = .int .i64 j ∧ s = .string ⟨acc.toArray⟩ ∧ j ≤ ks.length ∧ acc.length ≤ 1523 + f * 61400 ∧ Hid (acc = mk ++ (ks.take j).flatMap (wrF es f)) ∧ Below w.heap.size w wr ∧ Below w2.heap.size w2 wr) (fun _ i _ => ks.length - (intOf i).toNat)
      case atStart => exact ⟨0, mk, rfl, rfl, Nat.zero_le _, by omega, hid (by simp), B2, Below.refl _ _⟩
      case round =>
        obtain ⟨j, acc, rfl, rfl, hj, hacc, HC, hbel, hbel2⟩ := hrel
        by_cases hlt : j < ks.length
        · obtain ⟨g3, rfl, hg3, n0⟩ := (HI.out.below hbel2).at (i := j) (by rw [ints_len]; exact hlt)
          have hck := HKM.out ks[j] (List.getElem_mem hlt)
          have e1 : (ints ks)[j]'(by rw [ints_len]; exact hlt) = (ks[j] : Int) := by simp [ints]
          rw [e1] at n0
          have q1 : (j : Int) < (ks.length : Int) := by omega
          have HR := hid (HIH.out ks[j] _ wr hck.2 (by omega) (HA.out.below hbel))
          have hcl := wr_len HG.out f hck.2
          have HC2 : Hid (acc ++ wrF es f ks[j] = mk ++ (ks.take (j + 1)).flatMap (wrF es f)) := hid (by rw [List.take_succ_eq_append_getElem hlt, List.flatMap_append, HC.out]; simp)
          have HL2 : Hid ((acc ++ wrF es f ks[j]).length ≤ 1523 + f * 61400) := hid (by
            rw [HC2.out, List.length_append]
            have := HW.out (j + 1)
            omega)
          clear e1 hck
          generalize wrF es f ks[j] = wc at *
          generalize ks[j] = c at *
          go_wp2_with fail
          refine HR.out.mono ?_
          rintro e w3 ⟨rfl, hb3⟩
          go_wp2
          exact ⟨⟨j + 1, acc ++ wc, by simp, Esc.app_str _ _, by omega, HL2.out, HC2, hbel.trans (hb3.mono hbel.size), hbel2.trans (hb3.mono hbel2.size)⟩, by simp [intOf]; omega⟩
        · have HV2 : Hid (wrF es (f + 1) k = acc ++ ([60, 47] ++ es[k].tag.data.toList ++ [62])) := hid (by rw [HV.out, HC.out, List.take_of_length_le (by omega), List.append_assoc]; rfl)
          have d0' := kept_cell hbel hg c0
          go_wp2
          go_ret
          exact ⟨by rw [HV2.out]; exact congrArg Ending.returned (str_end acc es[k].tag), hbel⟩
theorem ret_txt {c d : Int} {s t : List UInt8} (h : c = d) (h2 : s = t) : Ending.returned (.agg #[.int .i64 c, .string ⟨s.toArray⟩]) = .returned (.agg #[.int .i64 d, .string ⟨t.toArray⟩]) := by rw [h, h2]
set_option maxRecDepth 100000 in
set_option maxHeartbeats 4000000 in
theorem specWriteTree (B : Nat) (es : List ElemD) (v : Value) (w : World) (hl : SmallE 1048576 es) (hk : OkE es) (ha : ElemsAt w B v es) :
    Calls Tryz.prog 31 #[v] w fun e w' => e = .returned (.agg #[.int .i64 (wcode es), .string ⟨(wtext es).toArray⟩]) ∧ Below w.heap.size w w' := by
  obtain ⟨a, cap, rfl⟩ := ha.slice
  have hlen := hl.1
  have hb0 : Below w.heap.size w (w.alloc (.cells #[.int .i64 0, .string { data := #[] }] 36)) := (Below.refl _ w).alloc (Nat.le_refl _) _
  have HF := hid (specFault1 B es _ (w.alloc (.cells #[.int .i64 0, .string { data := #[] }] 36)) (by omega) hk (ha.below hb0))
  have HA := hid ha
  clear ha hl hk
  go_enter Tryz.func31, Tryz.ntmps31
  go_wp2_with fail
  refine HF.out.mono ?_
  rintro e w1 ⟨rfl, hb1⟩
  have B1 : Below w.heap.size w w1 := hb0.trans (hb1.mono (by simp))
  simp only [World.size_alloc] at hb1
  have l1 : w.heap.size < w1.heap.size := by have := hb1.size; simp at this; omega
  have r0 := kept_cell hb1 (b := w.heap.size) (o := 0) (v := .int .i64 0) (by omega) (by go_simp)
  have r1 := kept_cell hb1 (b := w.heap.size) (o := 1) (v := .string { data := #[] }) (by omega) (by go_simp)
  have f0 := kept_free hb1 (b := w.heap.size) (o := 0) (by omega) (by go_simp)
  have f1 := kept_free hb1 (b := w.heap.size) (o := 1) (by omega) (by go_simp)
  by_cases hf : fault es = 0
  · have b1 : (fault es != 0) = false := by simp [hf]
    have hG := good_of hf
    have hle := hG.le
    have hpos := hG.pos
    have HG := hid hG
    have HFZ := hid hf
    clear hf hG
    go_wp2
    go_loopw [4] (fun i wr => ∃ j : Nat, i = .int .i64 j ∧ j ≤ es.length ∧ Hid (∀ m, m < j → (markK es m).length ≤ 600) ∧ Below w.heap.size w wr ∧ Below w1.heap.size w1 wr) (fun i _ => es.length - (intOf i).toNat)
    case atStart => exact ⟨0, rfl, Nat.zero_le _, fun m hm => by omega, B1, Below.refl _ _⟩
    case round =>
      obtain ⟨j, rfl, hj, HJ, hbel, hbel1⟩ := hrel
      have l2 : w.heap.size < wr.heap.size := by have := hbel1.size; omega
      have s0 := kept_cell hbel1 l1 r0
      have s1 := kept_cell hbel1 l1 r1
      have t0 := kept_free hbel1 l1 f0
      have t1 := kept_free hbel1 l1 f1
      by_cases hlt : j < es.length
      · have q1 : (j : Int) < (es.length : Int) := by omega
        have HM := hid (specMark B es _ j wr HG.out hlt (HA.out.below hbel))
        have hml := mark_len HG.out hlt
        by_cases h6 : (markK es j).length ≤ 600
        · have HJ2 : Hid (∀ m, m < j + 1 → (markK es m).length ≤ 600) := hid (fun m hm => by
            by_cases e : m = j
            · subst e; exact h6
            · exact HJ.out m (by omega))
          generalize markK es j = mk at *
          have b2 : ¬ (600 : Int) < (mk.length : Int) := by omega
          go_wp2_with fail
          refine HM.out.mono ?_
          rintro e w3 ⟨rfl, hb3⟩
          go_wp2
          exact ⟨⟨j + 1, by simp, by omega, HJ2, hbel.trans (hb3.mono hbel.size), hbel1.trans (hb3.mono hbel1.size)⟩, by simp [intOf]; omega⟩
        · have HV := hid (w_many HFZ.out (fun h => h6 (short_of HG.out h.1 j hlt)))
          generalize markK es j = mk at *
          have b2 : (600 : Int) < (mk.length : Int) := by omega
          go_wp2_with fail
          refine HM.out.mono ?_
          rintro e w3 ⟨rfl, hb3⟩
          have l3 : w.heap.size < w3.heap.size := by have := hb3.size; omega
          have u0 := kept_cell hb3 l2 s0
          have u1 := kept_cell hb3 l2 s1
          have x0 := kept_free hb3 l2 t0
          have x1 := kept_free hb3 l2 t1
          have B3 := hbel.trans (hb3.mono hbel.size)
          go_wp2
          exact bodyPost_ret (v := .agg #[.int .i64 2, .string { data := #[] }]) (by simp [results, Tryz.results31, go_sem, u0, u1]) rfl ⟨ret_txt (s := []) HV.out.1.symm HV.out.2.symm, setB (setB B3 (Nat.le_refl _) _) (Nat.le_refl _) _⟩
      · have hall : okF es es.length 0 = true := ok_of (fun k hk => HJ.out k (by omega)) _ _ hpos
        have HO := hid hall
        have HWr := hid (specWrite B es HG.out es.length 0 _ wr hpos (by omega) hle (HA.out.below hbel))
        have hwl := wr_len HG.out es.length hpos
        clear hall
        by_cases h15 : (wrF es es.length 0).length ≤ 1500
        · have HV := hid (w_ok HFZ.out HO.out h15)
          generalize wrF es es.length 0 = tx at *
          have b2 : ¬ (1500 : Int) < (tx.length : Int) := by omega
          go_wp2_with fail
          refine HWr.out.mono ?_
          rintro e w3 ⟨rfl, hb3⟩
          have l3 : w.heap.size < w3.heap.size := by have := hb3.size; omega
          have u0 := kept_cell hb3 l2 s0
          have u1 := kept_cell hb3 l2 s1
          have x0 := kept_free hb3 l2 t0
          have x1 := kept_free hb3 l2 t1
          have B3 := hbel.trans (hb3.mono hbel.size)
          go_wp2
          exact bodyPost_ret (v := .agg #[.int .i64 0, .string ⟨tx.toArray⟩]) (by simp [results, Tryz.results31, go_sem, u0, u1]) rfl ⟨ret_txt HV.out.1.symm HV.out.2.symm, setB (setB B3 (Nat.le_refl _) _) (Nat.le_refl _) _⟩
        · have HV := hid (w_many HFZ.out (fun h => h15 h.2))
          generalize wrF es es.length 0 = tx at *
          have b2 : (1500 : Int) < (tx.length : Int) := by omega
          go_wp2_with fail
          refine HWr.out.mono ?_
          rintro e w3 ⟨rfl, hb3⟩
          have l3 : w.heap.size < w3.heap.size := by have := hb3.size; omega
          have u0 := kept_cell hb3 l2 s0
          have u1 := kept_cell hb3 l2 s1
          have x0 := kept_free hb3 l2 t0
          have x1 := kept_free hb3 l2 t1
          have B3 := hbel.trans (hb3.mono hbel.size)
          go_wp2
          exact bodyPost_ret (v := .agg #[.int .i64 2, .string { data := #[] }]) (by simp [results, Tryz.results31, go_sem, u0, u1]) rfl ⟨ret_txt (s := []) HV.out.1.symm HV.out.2.symm, setB (setB B3 (Nat.le_refl _) _) (Nat.le_refl _) _⟩
  · have HV := hid (w_fault hf)
    have b1 : (fault es != 0) = true := by simpa using hf
    clear hf
    go_wp2
    exact bodyPost_ret (v := .agg #[.int .i64 (fault es), .string { data := #[] }]) (by simp [results, Tryz.results31, go_sem, r0, r1]) rfl ⟨ret_txt (s := []) HV.out.1.symm HV.out.2.symm, setB (setB B1 (Nat.le_refl _) _) (Nat.le_refl _) _⟩
end Tr
end Go.Proofs.YtgghigfflpbjiaaGreatDoor
