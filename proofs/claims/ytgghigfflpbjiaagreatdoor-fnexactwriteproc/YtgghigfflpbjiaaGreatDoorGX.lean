/- Laid together: TrVa, TrK, WrM, WrS, WrI, WrJ, WrK, TfW. -/
import Derived.Test.YtgghigfflpbjiaaGreatDoorGS
import Derived.Test.YtgghigfflpbjiaaGreatDoorGT
import Derived.Test.YtgghigfflpbjiaaGreatDoorShelf
import Derived.Test.YtgghigfflpbjiaaGreatDoorGF
import Derived.Deep.RegionHeld3
import Derived.Deep.RegionWith
import Derived.RegionTactic
import Derived.BigRegion
import Derived.Test.YtgghigfflpbjiaaGreatDoorGV
/- ValueOf, of the specification and of the program. Condition of the second: the table of entities lies as its initialiser lays it. -/
namespace Go.Proofs.YtgghigfflpbjiaaGreatDoor
open Go.RowKit
set_option linter.unusedVariables false
namespace Tr
/-- A cell, and its mark, of a block that stood. -/
theorem kept_cell {B : Nat} {W w : World} (h : Below B W w) {b o : Nat} (hb : b < B) {v : Value} (hc : W.cell? ⟨b, o, none⟩ = some v) : w.cell? ⟨b, o, none⟩ = some v := (h.cell (p := ⟨b, o, none⟩) hb).trans hc
theorem kept_free {B : Nat} {W w : World} (h : Below B W w) {b o : Nat} (hb : b < B) (hc : W.frozen? ⟨b, o, none⟩ = false) : w.frozen? ⟨b, o, none⟩ = false := (h.frozen (p := ⟨b, o, none⟩) hb).trans hc
def valAt (es : List ElemD) (at' : Int) (nm : ByteArray) : Int := match es[at'.toNat]? with
  | some e => attrIdx e.attrs nm
  | none => -1
def valCode (es : List ElemD) (at' : Int) (nm : ByteArray) : Int := if fault es ≠ 0 then fault es else if 0 ≤ at' ∧ at' < es.length then (if valAt es at' nm < 0 then 4 else 0) else 3
def valText (es : List ElemD) (at' : Int) (nm : ByteArray) : ByteArray := if valCode es at' nm = 0 then (match es[at'.toNat]? with
  | some e => (match e.attrs[(attrIdx e.attrs nm).toNat]? with
    | some a => a.value
    | none => { data := #[] })
  | none => { data := #[] }) else { data := #[] }
theorem val_fault {es : List ElemD} {at' : Int} {nm : ByteArray} (h : fault es ≠ 0) : valCode es at' nm = fault es ∧ valText es at' nm = { data := #[] } := by
  have e : valCode es at' nm = fault es := by unfold valCode; rw [if_pos h]
  exact ⟨e, by unfold valText; rw [if_neg (by rw [e]; exact h)]⟩
theorem val_range {es : List ElemD} {at' : Int} {nm : ByteArray} (h : fault es = 0) (h2 : ¬ (0 ≤ at' ∧ at' < es.length)) : valCode es at' nm = 3 ∧ valText es at' nm = { data := #[] } := by
  have e : valCode es at' nm = 3 := by unfold valCode; rw [if_neg (by simp [h]), if_neg h2]
  exact ⟨e, by unfold valText; rw [if_neg (by rw [e]; decide)]⟩
theorem val_none {es : List ElemD} {k : Nat} {nm : ByteArray} (h : fault es = 0) (hk : k < es.length) (h3 : attrIdx es[k].attrs nm < 0) : valCode es k nm = 4 ∧ valText es k nm = { data := #[] } := by
  have e1 : valAt es k nm = attrIdx es[k].attrs nm := by unfold valAt; rw [Int.toNat_natCast, List.getElem?_eq_getElem hk]
  have e : valCode es k nm = 4 := by unfold valCode; rw [if_neg (by simp [h]), if_pos (by omega), if_pos (by rw [e1]; exact h3)]
  exact ⟨e, by unfold valText; rw [if_neg (by rw [e]; decide)]⟩
theorem val_ok {es : List ElemD} {k j : Nat} {nm : ByteArray} (h : fault es = 0) (hk : k < es.length) (h3 : attrIdx es[k].attrs nm = j) (hj : j < es[k].attrs.length) : valCode es k nm = 0 ∧ valText es k nm = es[k].attrs[j].value := by
  have e1 : valAt es k nm = attrIdx es[k].attrs nm := by unfold valAt; rw [Int.toNat_natCast, List.getElem?_eq_getElem hk]
  have e : valCode es k nm = 0 := by unfold valCode; rw [if_neg (by simp [h]), if_pos (by omega), if_neg (by rw [e1, h3]; omega)]
  refine ⟨e, ?_⟩
  unfold valText
  rw [if_pos e, Int.toNat_natCast, List.getElem?_eq_getElem hk]
  simp only [h3, Int.toNat_natCast, List.getElem?_eq_getElem hj]
theorem idx_lt {l : List AttrD} {nm : ByteArray} {j : Nat} (h : attrIdx l nm = j) : j < l.length := by
  unfold attrIdx at h
  cases hf : l.findIdx? (fun a => a.name.toList == nm.toList) with
  | none => rw [hf] at h; simp only at h; omega
  | some i =>
    rw [hf] at h
    obtain ⟨hi, _⟩ := List.findIdx?_eq_some_iff_getElem.1 hf
    simp only at h
    omega
theorem ret_agg {c d : Int} {s t : ByteArray} (h : c = d) (h2 : s = t) : Ending.returned (.agg #[.int .i64 c, .string s]) = .returned (.agg #[.int .i64 d, .string t]) := by rw [h, h2]
end Tr
end Go.Proofs.YtgghigfflpbjiaaGreatDoor
/- KidsOf, of the specification and of the program. Condition of the second: the table of entities lies as its initialiser lays it. -/
namespace Go.Proofs.YtgghigfflpbjiaaGreatDoor
open Go.RowKit
set_option linter.unusedVariables false
namespace Tr
open Ints (vals IntsAt)
theorem kidVals_eq (l : List Nat) : kidVals l = vals (ints l) := by simp [kidVals, vals, ints]
theorem ints_len (l : List Nat) : (ints l).length = l.length := by simp [ints]
theorem kidsN_le {es : List ElemD} {n j : Nat} : (kidsN es n j).length ≤ n := by
  unfold kidsN
  have := List.length_filter_le (fun i => (es[i]?.map (·.parent)) == some (j : Int)) (List.range n)
  simpa using this
set_option maxRecDepth 100000 in
set_option maxHeartbeats 2000000 in
theorem specKids (B : Nat) (es : List ElemD) (v : Value) (k : Nat) (w : World) (hl : es.length ≤ 1048576) (ha : ElemsAt w B v es) :
    Calls Tryz.prog 87 #[v, .int .i64 (k : Int)] w fun e w' => (∃ u, e = .returned u ∧ w'.ownsRow w.heap.size 2 1 u (kidsN es es.length k).length (kidVals (kidsN es es.length k))) ∧ Below w.heap.size w w' := by
  obtain ⟨a, cap, rfl⟩ := ha.slice
  have HA := hid ha
  clear ha
  obtain ⟨j0, hj, hy0, hy1, hy2⟩ := info_parts infoI64
  go_enter Tryz.func87, Tryz.ntmps87
  go_wp2_with fail
  go_loopw [5, 6] (fun o i wr => ∃ n : Nat, i = .int .i64 n ∧ n ≤ es.length ∧ (∃ a5 c5, o = .slice a5 (kidsN es n k).length c5) ∧ Hid (wr.ownsRow w.heap.size 2 1 o (kidsN es n k).length (kidVals (kidsN es n k))) ∧ Below w.heap.size w wr) (fun _ i _ => es.length - (intOf i).toNat)
  case atStart => exact ⟨0, rfl, Nat.zero_le _, ⟨_, _, rfl⟩, World.ownsRow_made w #[] 0 (Nat.le_refl _) (by unfold maxLen; omega) rfl, (Below.refl _ w).alloc (Nat.le_refl _) _⟩
  case round =>
    obtain ⟨n, rfl, hn, ⟨a5, c5, rfl⟩, HO, hbel⟩ := hrel
    have hz := hbel.size
    by_cases hlt : n < es.length
    · obtain ⟨g, o, va, rfl, hg, c0, c1, c2, _⟩ := (HA.out.below hbel).at hlt
      have q1 : (n : Int) < (es.length : Int) := by omega
      have hle := kidsN_le (es := es) (n := n) (j := k)
      have HN := hid (kidsN_succ (j := k) hlt)
      by_cases he : es[n].parent = (k : Int)
      · have HK : Hid (kidsN es (n + 1) k = kidsN es n k ++ [n]) := hid (by rw [HN.out, if_pos he.symm])
        have b1 : (es[n].parent == (k : Int)) = true := beq_iff_eq.2 he
        clear he HN
        generalize kidsN es n k = ks at *
        have hown := HO.out
        go_wp2_with (at_builtin; go_must (refine wpList_append_own _ rfl _ _ 108 rfl w.heap.size 2 j0 (.int .i64 0) 1 8 Tryz.underlying108 hj hy0 hy1 hy2 rfl (by decide) _ _ _ rfl (hown.alloc _) ⟨wr.heap.size, 0, none⟩ 1 1 [.int .i64 (n : Int)] rfl rfl (cell_one_new _ _ _) (by simp [Value.oneCell']) (by unfold maxLen; omega) (by omega) (by simp; omega) ?_); intro v' w2 hown' hgrow _; obtain ⟨g9, c9, rfl⟩ := ownsRow_succ hown')
        have hB2 : Below w.heap.size w w2 := (hbel.alloc hz _).grown hgrow (by simp; omega) (fun b e => (own_lt hown e).1)
        refine ⟨⟨n + 1, by simp, by omega, ⟨some ⟨g9, 0, none⟩, c9, by rw [HK.out, List.length_append]; rfl⟩, hid ?_, hB2⟩, by simp [intOf]; omega⟩
        rw [HK.out]
        simpa [kidVals] using hown'
      · have HK : Hid (kidsN es (n + 1) k = kidsN es n k) := hid (by rw [HN.out, if_neg (fun e => he e.symm), List.append_nil])
        have b1 : (es[n].parent == (k : Int)) = false := beq_eq_false_iff_ne.2 he
        clear he HN
        go_wp2
        refine ⟨⟨n + 1, by simp, by omega, ⟨a5, c5, by rw [HK.out]⟩, hid ?_, hbel⟩, by simp [intOf]; omega⟩
        rw [HK.out]
        exact HO.out
    · have hne : n = es.length := by omega
      have HE := hid hne
      clear hne
      go_wp2
      go_ret
      refine ⟨⟨_, rfl, ?_⟩, hbel⟩
      rw [← HE.out]
      exact HO.out
def kidCode (es : List ElemD) (at' : Int) : Int := if fault es ≠ 0 then fault es else if 0 ≤ at' ∧ at' < es.length then 0 else 3
def kidList (es : List ElemD) (at' : Int) : List Int := if kidCode es at' = 0 then ints (kidsN es es.length at'.toNat) else []
theorem kid_fault {es : List ElemD} {at' : Int} (h : fault es ≠ 0) : kidCode es at' = fault es ∧ kidList es at' = [] := by
  have e : kidCode es at' = fault es := by unfold kidCode; rw [if_pos h]
  exact ⟨e, by unfold kidList; rw [if_neg (by rw [e]; exact h)]⟩
theorem kid_range {es : List ElemD} {at' : Int} (h : fault es = 0) (h2 : ¬ (0 ≤ at' ∧ at' < es.length)) : kidCode es at' = 3 ∧ kidList es at' = [] := by
  have e : kidCode es at' = 3 := by unfold kidCode; rw [if_neg (by simp [h]), if_neg h2]
  exact ⟨e, by unfold kidList; rw [if_neg (by rw [e]; decide)]⟩
theorem kid_ok {es : List ElemD} {k : Nat} (h : fault es = 0) (hk : k < es.length) : kidCode es k = 0 ∧ kidList es k = ints (kidsN es es.length k) := by
  have e : kidCode es k = 0 := by unfold kidCode; rw [if_neg (by simp [h]), if_pos (by omega)]
  exact ⟨e, by unfold kidList; rw [if_pos e, Int.toNat_natCast]⟩
theorem kidList_len {es : List ElemD} {at' : Int} : (kidList es at').length ≤ es.length := by
  unfold kidList
  split
  · rw [ints_len]; exact kidsN_le
  · exact Nat.zero_le _
theorem ret_ints {c d : Int} {v : Value} (h : c = d) : Ending.returned (.agg #[.int .i64 c, v]) = .returned (.agg #[.int .i64 d, v]) := by rw [h]
theorem own_set {w : World} {B n b c : Nat} {v u : Value} {xs : List Value} (h : w.ownsRow B 2 1 v n xs) (hb : b < B) : (w.setCell ⟨b, c, none⟩ u).ownsRow B 2 1 v n xs := ownsRow_setCell_below h (a := ⟨b, c, none⟩) hb u
theorem own_mono {w : World} {B B' n : Nat} {e : TypeId} {sz : Nat} {v : Value} {xs : List Value} (h : w.ownsRow B e sz v n xs) (hb : B' ≤ B) : w.ownsRow B' e sz v n xs := by
  refine ⟨h.1, ?_⟩
  rcases h.2 with h | ⟨g, cap, cur, rfl, h1, r⟩
  · exact .inl h
  · exact .inr ⟨g, cap, cur, rfl, Nat.le_trans hb h1, r⟩
/-- What KidsOf answers. -/
def KidsPost (es : List ElemD) (at' : Int) (w : World) (e : Ending) (w' : World) : Prop :=
  (∃ u, e = .returned (.agg #[.int .i64 (kidCode es at'), u]) ∧ w'.ownsRow (w.heap.size + 1) 2 1 u (kidList es at').length (vals (kidList es at'))) ∧ Below w.heap.size w w'
end Tr
end Go.Proofs.YtgghigfflpbjiaaGreatDoor
/- Plain facts about what is written of a tree, of no program. -/
namespace Go.Proofs.YtgghigfflpbjiaaGreatDoor
set_option linter.unusedVariables false
namespace Tr
open Esc (esc escAll escAll_len)
def piece (a : AttrD) : List UInt8 := 32 :: a.name.data.toList ++ [61, 34] ++ escAll a.value.data.toList ++ [34]
def pieces (l : List AttrD) : List UInt8 := l.flatMap piece
def markB (e : ElemD) (closed : Bool) : List UInt8 := 60 :: e.tag.data.toList ++ pieces e.attrs ++ (if closed then [47, 62] else [62])
def endB (e : ElemD) : List UInt8 := [60, 47] ++ e.tag.data.toList ++ [62]
def EJ (es : List ElemD) (k : Nat) : ElemD := es[k]?.getD ⟨ByteArray.empty, 0, []⟩
theorem EJ_eq {es : List ElemD} {k : Nat} (h : k < es.length) : EJ es k = es[k] := by unfold EJ; rw [List.getElem?_eq_getElem h]; rfl
def kidsA (es : List ElemD) (k : Nat) : List Nat := kidsN es es.length k
def markK (es : List ElemD) (k : Nat) : List UInt8 := markB (EJ es k) (kidsA es k).isEmpty
def wrF (es : List ElemD) : Nat → Nat → List UInt8
  | 0, _ => []
  | f + 1, k => markK es k ++ (if (kidsA es k).isEmpty then [] else (kidsA es k).flatMap (wrF es f) ++ endB (EJ es k))
def okF (es : List ElemD) : Nat → Nat → Bool
  | 0, _ => true
  | f + 1, k => decide ((markK es k).length ≤ 600) && (kidsA es k).all (okF es f)
/-- What is known of a tree with nothing wrong. -/
structure Good (es : List ElemD) : Prop where
  pos : 0 < es.length
  le : es.length ≤ 40
  low : ∀ j (h : j < es.length), es[j].parent < j
  par : ∀ j (h : j < es.length), 0 < j → 0 ≤ es[j].parent
  tag : ∀ j (h : j < es.length), nf es[j].tag.data.toList = 0
  len : ∀ j (h : j < es.length), es[j].attrs.length ≤ 6
  att : ∀ j (h : j < es.length), acode es[j].attrs = 0
theorem good_of {es : List ElemD} (h : fault es = 0) : Good es := by
  have hz : ¬ es.length < 1 ∧ ¬ 40 < es.length := by
    by_cases e : es.length < 1 ∨ 40 < es.length
    · rw [fault_many e] at h; omega
    · omega
  have all : ∀ i, i ≤ es.length → ∃ S, Seen es i S ∧ ∀ j (hj : j < es.length), j < i → es[j].parent < j ∧ (0 < j → 0 ≤ es[j].parent) ∧ nf es[j].tag.data.toList = 0 ∧ es[j].attrs.length ≤ 6 ∧ acode es[j].attrs = 0 := by
    intro i
    induction i with
    | zero => exact fun _ => ⟨[], Seen.start hz.1 hz.2, fun j _ hj => by omega⟩
    | succ i ih =>
      intro hi
      obtain ⟨S, hs, ho⟩ := ih (by omega)
      have hlt : i < es.length := by omega
      by_cases hn : nf es[i].tag.data.toList = 0
      · by_cases hp : (i = 0 ∧ es[i].parent ≠ -1) ∨ (0 < i ∧ ¬ (0 ≤ es[i].parent ∧ es[i].parent < i))
        · rw [hs.range hlt hn hp] at h; omega
        · by_cases hf : 0 < i ∧ onPath es[i].parent S = false
          · rw [hs.form hlt hn hp hf] at h; omega
          · by_cases hm : 8 < (cutTo es[i].parent S).length + 1 ∨ 6 < es[i].attrs.length
            · rw [hs.many hlt hn hp hf hm] at h; omega
            · by_cases ha : acode es[i].attrs = 0
              · refine ⟨_, hs.next hlt hn hp hf hm ha, fun j hj hji => ?_⟩
                by_cases e : j = i
                · subst e
                  refine ⟨low_of hj hp, fun h0 => ?_, hn, by omega, ha⟩
                  have : ¬ ¬ (0 ≤ es[j].parent ∧ es[j].parent < j) := fun e => hp (.inr ⟨h0, e⟩)
                  omega
                · exact ho j hj (by omega)
              · rw [hs.attr hlt hn hp hf hm ha] at h; exact absurd h ha
      · rw [hs.name hlt hn] at h; exact absurd h hn
  obtain ⟨S, _, ho⟩ := all es.length (Nat.le_refl _)
  exact ⟨by omega, by omega, fun j hj => (ho j hj hj).1, fun j hj => (ho j hj hj).2.1, fun j hj => (ho j hj hj).2.2.1, fun j hj => (ho j hj hj).2.2.2.1, fun j hj => (ho j hj hj).2.2.2.2⟩
theorem acode_all : ∀ {l pre : List AttrD}, acodeFrom pre l = 0 → ∀ a ∈ l, nf a.name.data.toList = 0 ∧ vcode a.value.data.toList = 0
  | [], _, _, a, ha => by cases ha
  | b :: r, pre, h, a, ha => by
    rw [acodeFrom] at h
    by_cases h1 : nf b.name.data.toList = 0
    · rw [if_neg (by simp [h1])] at h
      by_cases h2 : hasName pre b.name = true
      · rw [if_pos h2] at h; omega
      · rw [if_neg h2] at h
        by_cases h3 : vcode b.value.data.toList = 0
        · rw [if_neg (by simp [h3])] at h
          rcases List.mem_cons.1 ha with rfl | ha
          · exact ⟨h1, h3⟩
          · exact acode_all h a ha
        · rw [if_pos h3] at h; exact absurd h h3
    · rw [if_pos h1] at h; exact absurd h h1
theorem nf_len {l : List UInt8} (h : nf l = 0) : l.length ≤ 8 := by
  unfold nf at h
  by_cases e1 : azAll l = false
  · rw [if_pos e1] at h; omega
  · rw [if_neg e1] at h
    by_cases e2 : l.length = 0
    · omega
    · rw [if_neg e2] at h
      by_cases e3 : 8 < l.length
      · rw [if_pos e3] at h; omega
      · omega
theorem v_len {l : List UInt8} (h : vcode l = 0) : l.length ≤ 40 := by
  unfold vcode at h
  by_cases e1 : 40 < l.length
  · rw [if_pos e1] at h; omega
  · omega
theorem piece_len {a : AttrD} (h1 : nf a.name.data.toList = 0) (h2 : vcode a.value.data.toList = 0) : (piece a).length ≤ 252 := by
  have h3 := nf_len h1
  have h4 := v_len h2
  have h5 := escAll_len a.value.data.toList
  simp only [piece, List.length_append, List.length_cons, List.length_nil]
  omega
theorem pieces_len : ∀ {l : List AttrD}, (∀ a ∈ l, (piece a).length ≤ 252) → (pieces l).length ≤ 252 * l.length
  | [], _ => by simp [pieces]
  | a :: r, h => by
    have h1 := h a (by simp)
    have h2 := pieces_len (l := r) (fun b hb => h b (by simp [hb]))
    unfold pieces at *
    simp only [List.flatMap_cons, List.length_append, List.length_cons]
    omega
theorem Good.attrs {es : List ElemD} (h : Good es) {k : Nat} (hk : k < es.length) : ∀ a ∈ es[k].attrs, nf a.name.data.toList = 0 ∧ vcode a.value.data.toList = 0 := acode_all (pre := []) (h.att k hk)
theorem Good.pl {es : List ElemD} (h : Good es) {k : Nat} (hk : k < es.length) : ∀ a ∈ es[k].attrs, (piece a).length ≤ 252 := fun a ha => piece_len (h.attrs hk a ha).1 (h.attrs hk a ha).2
theorem mark_len {es : List ElemD} (h : Good es) {k : Nat} (hk : k < es.length) : (markK es k).length ≤ 1523 := by
  have h1 := nf_len (h.tag k hk)
  have h2 := pieces_len (h.pl hk)
  have h3 := h.len k hk
  unfold markK markB
  rw [EJ_eq hk]
  simp only [List.length_append, List.length_cons]
  have h4 : (if (kidsA es k).isEmpty = true then [47, 62] else [62] : List UInt8).length ≤ 2 := by split <;> simp
  omega
theorem end_len {es : List ElemD} (h : Good es) {k : Nat} (hk : k < es.length) : (endB (EJ es k)).length ≤ 11 := by
  have h1 := nf_len (h.tag k hk)
  unfold endB
  rw [EJ_eq hk]
  simp only [List.length_append, List.length_cons, List.length_nil]
  omega
theorem mem_kids {es : List ElemD} {k c : Nat} (h : c ∈ kidsA es k) : ∃ hc : c < es.length, es[c].parent = (k : Int) := by
  unfold kidsA kidsN at h
  obtain ⟨h1, h2⟩ := List.mem_filter.1 h
  have hc : c < es.length := by simpa using h1
  refine ⟨hc, ?_⟩
  rw [List.getElem?_eq_getElem hc, Option.map_some, beq_iff_eq] at h2
  exact Option.some.inj h2
theorem kid_mem {es : List ElemD} {k c : Nat} (hc : c < es.length) (h : es[c].parent = (k : Int)) : c ∈ kidsA es k := by
  unfold kidsA kidsN
  refine List.mem_filter.2 ⟨by simpa using hc, ?_⟩
  rw [List.getElem?_eq_getElem hc, Option.map_some, beq_iff_eq, h]
theorem kid_gt {es : List ElemD} (h : Good es) {k c : Nat} (hc : c ∈ kidsA es k) : k < c ∧ c < es.length := by
  obtain ⟨h1, h2⟩ := mem_kids hc
  have := h.low c h1
  omega
/-! ### how long it gets -/
theorem nodup_len : ∀ {n : Nat} {l : List Nat}, l.Nodup → (∀ x ∈ l, x < n) → l.length ≤ n
  | 0, [], _, _ => Nat.le_refl _
  | 0, a :: r, _, h => absurd (h a (by simp)) (by omega)
  | n + 1, l, hd, h => by
    by_cases hm : n ∈ l
    · have h1 := nodup_len (n := n) (l := l.erase n) (hd.erase n) (fun x hx => by
        have h2 := (hd.mem_erase_iff).1 hx
        have := h x h2.2
        omega)
      rw [List.length_erase_of_mem hm] at h1
      omega
    · exact Nat.le_succ_of_le (nodup_len (n := n) hd (fun x hx => by
        have := h x hx
        have : x ≠ n := fun e => hm (e ▸ hx)
        omega))
theorem kids_nodup (es : List ElemD) (k : Nat) : (kidsA es k).Nodup := by
  unfold kidsA kidsN
  exact List.nodup_range.filter _
theorem kids_flat {es : List ElemD} {L : List Nat} (h : L.Nodup) : (L.flatMap (kidsA es)).Nodup := by
  unfold List.Nodup
  rw [List.pairwise_flatMap]
  refine ⟨fun a _ => kids_nodup es a, h.imp ?_⟩
  intro a b hab x hx y hy e
  subst e
  obtain ⟨h1, h2⟩ := mem_kids hx
  obtain ⟨_, h3⟩ := mem_kids hy
  rw [h2] at h3
  omega
def sumL (g : Nat → Nat) (l : List Nat) : Nat := (l.map g).sum
theorem sum_flat (g : Nat → Nat) (k : Nat → List Nat) : ∀ l : List Nat, sumL g (l.flatMap k) = sumL (fun a => sumL g (k a)) l
  | [] => rfl
  | a :: r => by
    have h := sum_flat g k r
    unfold sumL at *
    simp only [List.flatMap_cons, List.map_append, List.sum_append, List.map_cons, List.sum_cons]
    omega
theorem flat_len' (g : Nat → List UInt8) : ∀ l : List Nat, (l.flatMap g).length = sumL (fun a => (g a).length) l
  | [] => rfl
  | a :: r => by
    have h := flat_len' g r
    unfold sumL at *
    simp only [List.flatMap_cons, List.length_append, List.map_cons, List.sum_cons]
    omega
theorem sum_le {g g' : Nat → Nat} {c : Nat} : ∀ {l : List Nat}, (∀ a ∈ l, g a ≤ c + g' a) → sumL g l ≤ c * l.length + sumL g' l
  | [], _ => by simp [sumL]
  | a :: r, h => by
    have h1 := h a (by simp)
    have h2 := sum_le (l := r) (fun b hb => h b (by simp [hb]))
    unfold sumL at *
    simp only [List.map_cons, List.sum_cons, List.length_cons, Nat.mul_add]
    omega
theorem wr_sum {es : List ElemD} (h : Good es) : ∀ (f : Nat) {L : List Nat}, L.Nodup → (∀ k ∈ L, k < es.length) → sumL (fun k => (wrF es f k).length) L ≤ f * 61400
  | 0, L, _, _ => by
    have h2 : ∀ l : List Nat, sumL (fun k => (wrF es 0 k).length) l = 0 := fun l => by
      unfold sumL
      induction l with
      | nil => rfl
      | cons a r ih => simp only [List.map_cons, List.sum_cons, ih]; rfl
    rw [h2 L]
    exact Nat.zero_le _
  | f + 1, L, hd, hL => by
    have h1 : ∀ k ∈ L, (wrF es (f + 1) k).length ≤ 1535 + sumL (fun c => (wrF es f c).length) (kidsA es k) := fun k hk => by
      have m1 := mark_len h (hL k hk)
      have m2 := end_len h (hL k hk)
      rw [wrF, List.length_append]
      split
      · simp only [List.length_nil]; omega
      · rw [List.length_append, flat_len']; omega
    have h2 := sum_le (g := fun k => (wrF es (f + 1) k).length) (c := 1535) (l := L) h1
    rw [← sum_flat] at h2
    have h3 := wr_sum h f (kids_flat (es := es) hd) (fun c hc => by
      obtain ⟨k, _, hk⟩ := List.mem_flatMap.1 hc
      exact (kid_gt h hk).2)
    have h4 := nodup_len hd hL
    have h5 := h.le
    have : 1535 * L.length ≤ 61400 := by omega
    omega
theorem wr_len {es : List ElemD} (h : Good es) (f : Nat) {k : Nat} (hk : k < es.length) : (wrF es f k).length ≤ f * 61400 := by
  have h1 := wr_sum h f (L := [k]) (by simp) (fun x hx => by simp at hx; omega)
  unfold sumL at h1
  simpa using h1
theorem wr_kids_len {es : List ElemD} (h : Good es) (f : Nat) {k m : Nat} : (((kidsA es k).take m).flatMap (wrF es f)).length ≤ f * 61400 := by
  rw [flat_len']
  exact wr_sum h f ((kids_nodup es k).sublist (List.take_sublist _ _)) (fun c hc => (kid_gt h (List.mem_of_mem_take hc)).2)
/-! ### whether all marks are short -/
theorem ok_of {es : List ElemD} (h : ∀ k, k < es.length → (markK es k).length ≤ 600) : ∀ (f k : Nat), k < es.length → okF es f k = true
  | 0, _, _ => rfl
  | f + 1, k, hk => by
    rw [okF, Bool.and_eq_true, decide_eq_true_eq, List.all_eq_true]
    exact ⟨h k hk, fun c hc => ok_of h f c (mem_kids hc).1⟩
theorem of_ok {es : List ElemD} (h : Good es) (hk : okF es es.length 0 = true) : ∀ j, j < es.length → ∃ f, es.length - j ≤ f ∧ okF es f j = true := by
  intro j
  induction j using Nat.strongRecOn with
  | _ j ih =>
    intro hj
    rcases Nat.eq_zero_or_pos j with h0 | h0
    · subst h0; exact ⟨es.length, by omega, hk⟩
    · have hp := h.par j hj h0
      have hl := h.low j hj
      obtain ⟨f, hf, ho⟩ := ih es[j].parent.toNat (by omega) (by omega)
      cases f with
      | zero => omega
      | succ f =>
        rw [okF, Bool.and_eq_true, List.all_eq_true] at ho
        exact ⟨f, by omega, ho.2 j (kid_mem hj (by omega))⟩
theorem short_of {es : List ElemD} (h : Good es) (hk : okF es es.length 0 = true) : ∀ j, j < es.length → (markK es j).length ≤ 600 := fun j hj => by
  obtain ⟨f, hf, ho⟩ := of_ok h hk j hj
  cases f with
  | zero => omega
  | succ f =>
    rw [okF, Bool.and_eq_true, decide_eq_true_eq] at ho
    exact ho.1
def wcode (es : List ElemD) : Int := if fault es ≠ 0 then fault es else if okF es es.length 0 = true ∧ (wrF es es.length 0).length ≤ 1500 then 0 else 2
def wtext (es : List ElemD) : List UInt8 := if wcode es = 0 then wrF es es.length 0 else []
theorem w_fault {es : List ElemD} (h : fault es ≠ 0) : wcode es = fault es ∧ wtext es = [] := by
  have e : wcode es = fault es := by unfold wcode; rw [if_pos h]
  exact ⟨e, by unfold wtext; rw [if_neg (by rw [e]; exact h)]⟩
theorem w_many {es : List ElemD} (h : fault es = 0) (h2 : ¬ (okF es es.length 0 = true ∧ (wrF es es.length 0).length ≤ 1500)) : wcode es = 2 ∧ wtext es = [] := by
  have e : wcode es = 2 := by unfold wcode; rw [if_neg (by simp [h]), if_neg h2]
  exact ⟨e, by unfold wtext; rw [if_neg (by rw [e]; decide)]⟩
theorem w_ok {es : List ElemD} (h : fault es = 0) (h1 : okF es es.length 0 = true) (h2 : (wrF es es.length 0).length ≤ 1500) : wcode es = 0 ∧ wtext es = wrF es es.length 0 := by
  have e : wcode es = 0 := by unfold wcode; rw [if_neg (by simp [h]), if_pos ⟨h1, h2⟩]
  exact ⟨e, by unfold wtext; rw [if_pos e]⟩
end Tr
end Go.Proofs.YtgghigfflpbjiaaGreatDoor
/- What is written of a tree, as the specification writes it. -/
namespace Go.Proofs.YtgghigfflpbjiaaGreatDoor
open Go.RowKit
set_option linter.unusedVariables false
namespace Tr
open Esc (esc escAll escAll_len)
theorem bytes_of (s : ByteArray) : (ByteArray.mk s.data.toList.toArray) = s := by cases s; simp
theorem str_head (t : ByteArray) : Value.string (ByteArray.mk #[60] ++ t) = .string ⟨(60 :: t.data.toList).toArray⟩ := by
  apply congrArg Value.string; apply ByteArray.ext; simp
theorem str_piece (acc : List UInt8) (a : AttrD) : Value.string (ByteArray.mk acc.toArray ++ ByteArray.mk #[32] ++ a.name ++ ByteArray.mk #[61, 34] ++ ByteArray.mk (escAll a.value.data.toList).toArray ++ ByteArray.mk #[34]) = .string ⟨(acc ++ piece a).toArray⟩ := by
  apply congrArg Value.string; apply ByteArray.ext; simp [piece]
theorem str_two (acc : List UInt8) (l : Array UInt8) : Value.string (ByteArray.mk acc.toArray ++ ByteArray.mk l) = .string ⟨(acc ++ l.toList).toArray⟩ := by
  apply congrArg Value.string; apply ByteArray.ext; simp
theorem str_end (acc : List UInt8) (t : ByteArray) : Value.string (ByteArray.mk acc.toArray ++ ByteArray.mk #[60, 47] ++ t ++ ByteArray.mk #[62]) = .string ⟨(acc ++ ([60, 47] ++ t.data.toList ++ [62])).toArray⟩ := by
  apply congrArg Value.string; apply ByteArray.ext; simp
theorem pieces_snoc {l : List AttrD} {j : Nat} (h : j < l.length) : pieces (l.take (j + 1)) = pieces (l.take j) ++ piece l[j] := by
  unfold pieces
  rw [List.take_succ_eq_append_getElem h, List.flatMap_append]
  simp
theorem ret_str {l m : List UInt8} (h : l = m) : Ending.returned (.string ⟨l.toArray⟩) = .returned (.string ⟨m.toArray⟩) := by rw [h]
theorem len_size' (s : ByteArray) : s.data.toList.length = s.size := by simp
set_option maxRecDepth 100000 in
set_option maxHeartbeats 4000000 in
theorem specMark (B : Nat) (es : List ElemD) (v : Value) (k : Nat) (w : World) (hG : Good es) (hk : k < es.length) (ha : ElemsAt w B v es) :
    Calls Tryz.prog 55 #[v, .int .i64 (k : Int)] w fun e w' => e = .returned (.string ⟨(markK es k).toArray⟩) ∧ Below w.heap.size w w' := by
  obtain ⟨a, cap, rfl⟩ := ha.slice
  have hle := hG.le
  obtain ⟨g, o, va, rfl, hg, c0, c1, c2, hva⟩ := ha.at hk
  obtain ⟨b, e2, rfl⟩ := hva.slice
  have HA := hid ha
  have HVA := hid hva
  have HG := hid hG
  have hl6 := hG.len k hk
  have ht8 : es[k].tag.size ≤ 8 := by rw [← len_size']; exact nf_len (hG.tag k hk)
  have q0 : (k : Int) < (es.length : Int) := by omega
  clear ha hva hG
  go_enter Tryz.func55, Tryz.ntmps55
  go_wp2
  go_loopw [6, 7] (fun s i wr => ∃ (j : Nat) (acc : List UInt8), i = .int .i64 j ∧ s = .string ⟨acc.toArray⟩ ∧ j ≤ es[k].attrs.length ∧ acc.length ≤ 9 + 252 * j ∧ Hid (acc = 60 :: es[k].tag.data.toList ++ pieces (es[k].attrs.take j)) ∧ Below w.heap.size w wr) (fun _ i _ => es[k].attrs.length - (intOf i).toNat)
  case atStart => exact ⟨0, _, rfl, str_head _, Nat.zero_le _, by simp; omega, hid (by simp [pieces]), Below.refl _ _⟩
  case round =>
    obtain ⟨j, acc, rfl, rfl, hj, hacc, HC, hbel⟩ := hrel
    have d0 := kept_cell hbel hg c0
    have d2 := kept_cell hbel hg c2
    by_cases hlt : j < es[k].attrs.length
    · obtain ⟨g3, o3, rfl, hg3, n0, n1⟩ := (HVA.out.below hbel).at hlt
      have q1 : (j : Int) < (es[k].attrs.length : Int) := by omega
      have hat := HG.out.attrs hk es[k].attrs[j] (List.getElem_mem hlt)
      have hn8 : es[k].attrs[j].name.size ≤ 8 := by rw [← len_size']; exact nf_len hat.1
      have hv40 : es[k].attrs[j].value.size ≤ 40 := by rw [← len_size']; exact v_len hat.2
      have hel := escAll_len es[k].attrs[j].value.data.toList
      rw [len_size'] at hel
      have HX := hid (fun w' => Esc.specEscape es[k].attrs[j].value w' hv40)
      have HC2 : Hid (acc ++ piece es[k].attrs[j] = 60 :: es[k].tag.data.toList ++ pieces (es[k].attrs.take (j + 1))) := hid (by rw [pieces_snoc hlt, HC.out]; simp)
      have hpl := HG.out.pl hk es[k].attrs[j] (List.getElem_mem hlt)
      have HPL := hid hpl
      clear hat hpl
      go_wp2
      go_quiet ((go_at_call 86; exact Calls.quiet_of_same (HX.out _)))
      go_wp2
      exact ⟨⟨j + 1, acc ++ piece es[k].attrs[j], by simp, str_piece _ _, by omega, by rw [List.length_append]; have := HPL.out; omega, HC2, Ints.below_drewN hbel nq⟩, by simp [intOf]; omega⟩
    · have HKK := hid (specKids B es _ k wr (by omega) (HA.out.below hbel))
      have HAll : Hid (acc = 60 :: es[k].tag.data.toList ++ pieces es[k].attrs) := hid (by rw [HC.out, List.take_of_length_le (by omega)])
      by_cases he : (kidsN es es.length k).length = 0
      · have HV : Hid (markK es k = acc ++ #[47, 62].toList) := hid (by
          unfold markK markB
          have : (kidsA es k).isEmpty = true := by unfold kidsA; exact List.isEmpty_iff.2 (List.length_eq_zero_iff.1 he)
          rw [this, if_pos rfl, EJ_eq hk, HAll.out])
        have b1 : (((kidsN es es.length k).length : Int) == 0) = true := beq_iff_eq.2 (by omega)
        clear he
        go_wp2_with (go_at_call 87; refine HKK.out.mono ?_; rintro e w2 ⟨⟨u, rfl, ho⟩, hb2⟩; obtain ⟨x5, y5, rfl⟩ := Ints.owns_slice ho; clear ho)
        go_ret
        exact ⟨by rw [HV.out]; exact congrArg Ending.returned (str_two acc #[47, 62]), hbel.trans (hb2.mono hbel.size)⟩
      · have HV : Hid (markK es k = acc ++ #[62].toList) := hid (by
          unfold markK markB
          have : (kidsA es k).isEmpty = false := by unfold kidsA; exact List.isEmpty_eq_false_iff.2 (fun e => he (by rw [e]; rfl))
          rw [this, if_neg (by decide), EJ_eq hk, HAll.out])
        have b1 : (((kidsN es es.length k).length : Int) == 0) = false := beq_eq_false_iff_ne.2 (by omega)
        clear he
        go_wp2_with (go_at_call 87; refine HKK.out.mono ?_; rintro e w2 ⟨⟨u, rfl, ho⟩, hb2⟩; obtain ⟨x5, y5, rfl⟩ := Ints.owns_slice ho; clear ho)
        go_ret
        exact ⟨by rw [HV.out]; exact congrArg Ending.returned (str_two acc #[62]), hbel.trans (hb2.mono hbel.size)⟩
theorem wr_leaf {es : List ElemD} {f k : Nat} (h : (kidsA es k).isEmpty = true) : wrF es (f + 1) k = markK es k := by rw [wrF, if_pos h, List.append_nil]
theorem wr_node {es : List ElemD} {f k : Nat} (h : (kidsA es k).isEmpty = false) : wrF es (f + 1) k = markK es k ++ ((kidsA es k).flatMap (wrF es f) ++ endB (EJ es k)) := by rw [wrF, if_neg (by simp [h])]
set_option maxRecDepth 100000 in
set_option maxHeartbeats 4000000 in
theorem specWrite (B : Nat) (es : List ElemD) (hG : Good es) : ∀ (f k : Nat) (v : Value) (w : World), k < es.length → es.length - k ≤ f → f ≤ 40 → ElemsAt w B v es →
    Calls Tryz.prog 56 #[v, .int .i64 (k : Int)] w fun e w' => e = .returned (.string ⟨(wrF es f k).toArray⟩) ∧ Below w.heap.size w w'
  | 0, k, v, w, hk, hf, _, ha => by omega
  | f + 1, k, v, w, hk, hf, hf40, ha => by
    have HIH := hid (fun c v w (h1 : c < es.length) (h2 : es.length - c ≤ f) (h3 : ElemsAt w B v es) => specWrite B es hG f c v w h1 h2 (by omega) h3)
    obtain ⟨a, cap, rfl⟩ := ha.slice
    have hle := hG.le
    obtain ⟨g, o, va, rfl, hg, c0, c1, c2, hva⟩ := ha.at hk
    obtain ⟨b, e2, rfl⟩ := hva.slice
    have HA := hid ha
    have HG := hid hG
    have HM := hid (specMark B es _ k w hG hk ha)
    have hml := mark_len hG hk
    have ht8 : es[k].tag.size ≤ 8 := by rw [← len_size']; exact nf_len (hG.tag k hk)
    have q0 : (k : Int) < (es.length : Int) := by omega
    clear ha hva c1 c2
    generalize hmk : markK es k = mk at *
    have HMK := hid hmk
    clear hmk
    go_enter Tryz.func56, Tryz.ntmps56
    go_wp2_with fail
    refine HM.out.mono ?_
    rintro e w1 ⟨rfl, hb1⟩
    go_wp2_with fail
    refine (specKids B es _ k w1 (by omega) (HA.out.below hb1)).mono ?_
    rintro e w2 ⟨⟨u, rfl, ho⟩, hb2⟩
    have B2 := hb1.trans (hb2.mono hb1.size)
    have hkl := kidsN_le (es := es) (n := es.length) (j := k)
    rw [← ints_len, kidVals_eq] at ho
    have HI := hid (Ints.IntsAt.of ho)
    rw [ints_len] at ho
    obtain ⟨x5, y5, rfl⟩ := Ints.owns_slice ho
    clear ho HM
    have d0 := kept_cell B2 hg c0
    have hg2 := Nat.lt_of_lt_of_le hg B2.size
    by_cases he : (kidsN es es.length k).length = 0
    · have HV : Hid (wrF es (f + 1) k = mk) := hid (by
        rw [wr_leaf (by unfold kidsA; exact List.isEmpty_iff.2 (List.length_eq_zero_iff.1 he)), HMK.out])
      have b1 : (((kidsN es es.length k).length : Int) == 0) = true := beq_iff_eq.2 (by omega)
      clear he
      go_wp2
      go_ret
      exact ⟨by rw [HV.out]; rfl, B2⟩
    · have HV : Hid (wrF es (f + 1) k = mk ++ ((kidsN es es.length k).flatMap (wrF es f) ++ endB es[k])) := hid (by
        rw [wr_node (by unfold kidsA; exact List.isEmpty_eq_false_iff.2 (fun e => he (by rw [e]; rfl))), HMK.out, EJ_eq hk]; rfl)
      have b1 : (((kidsN es es.length k).length : Int) == 0) = false := beq_eq_false_iff_ne.2 (by omega)
      have HW : Hid (∀ m, (((kidsN es es.length k).take m).flatMap (wrF es f)).length ≤ f * 61400) := hid (fun m => wr_kids_len HG.out f (k := k) (m := m))
      have HKM : Hid (∀ c ∈ kidsN es es.length k, k < c ∧ c < es.length) := hid (fun c hc => kid_gt HG.out hc)
      clear he
      generalize kidsN es es.length k = ks at *
      go_wp2
      go_loopw [6, 8] (fun s i wr => ∃ (j : Nat) (acc : List UInt8), i = .int .i64 j ∧ s = .string ⟨acc.toArray⟩ ∧ j ≤ ks.length ∧ acc.length ≤ 1523 + f * 61400 ∧ Hid (acc = mk ++ (ks.take j).flatMap (wrF es f)) ∧ Below w.heap.size w wr ∧ Below w2.heap.size w2 wr) (fun _ i _ => ks.length - (intOf i).toNat)
      case atStart => exact ⟨0, mk, rfl, rfl, Nat.zero_le _, by omega, hid (by simp), B2, Below.refl _ _⟩
      case round =>
        obtain ⟨j, acc, rfl, rfl, hj, hacc, HC, hbel, hbel2⟩ := hrel
        by_cases hlt : j < ks.length
        · obtain ⟨g3, rfl, hg3, n0⟩ := (HI.out.below hbel2).at (i := j) (by rw [ints_len]; exact hlt)
          have hck := HKM.out ks[j] (List.getElem_mem hlt)
          have e1 : (ints ks)[j]'(by rw [ints_len]; exact hlt) = (ks[j] : Int) := by simp [ints]
          rw [e1] at n0
          have q1 : (j : Int) < (ks.length : Int) := by omega
          have HR := hid (HIH.out ks[j] _ wr hck.2 (by omega) (HA.out.below hbel))
          have hcl := wr_len HG.out f hck.2
          have HC2 : Hid (acc ++ wrF es f ks[j] = mk ++ (ks.take (j + 1)).flatMap (wrF es f)) := hid (by rw [List.take_succ_eq_append_getElem hlt, List.flatMap_append, HC.out]; simp)
          have HL2 : Hid ((acc ++ wrF es f ks[j]).length ≤ 1523 + f * 61400) := hid (by
            rw [HC2.out, List.length_append]
            have := HW.out (j + 1)
            omega)
          clear e1 hck
          generalize wrF es f ks[j] = wc at *
          generalize ks[j] = c at *
          go_wp2_with fail
          refine HR.out.mono ?_
          rintro e w3 ⟨rfl, hb3⟩
          go_wp2
          exact ⟨⟨j + 1, acc ++ wc, by simp, Esc.app_str _ _, by omega, HL2.out, HC2, hbel.trans (hb3.mono hbel.size), hbel2.trans (hb3.mono hbel2.size)⟩, by simp [intOf]; omega⟩
        · have HV2 : Hid (wrF es (f + 1) k = acc ++ ([60, 47] ++ es[k].tag.data.toList ++ [62])) := hid (by rw [HV.out, HC.out, List.take_of_length_le (by omega), List.append_assoc]; rfl)
          have d0' := kept_cell hbel hg c0
          go_wp2
          go_ret
          exact ⟨by rw [HV2.out]; exact congrArg Ending.returned (str_end acc es[k].tag), hbel⟩
theorem ret_txt {c d : Int} {s t : List UInt8} (h : c = d) (h2 : s = t) : Ending.returned (.agg #[.int .i64 c, .string ⟨s.toArray⟩]) = .returned (.agg #[.int .i64 d, .string ⟨t.toArray⟩]) := by rw [h, h2]
set_option maxRecDepth 100000 in
set_option maxHeartbeats 4000000 in
theorem specWriteTree (B : Nat) (es : List ElemD) (v : Value) (w : World) (hl : SmallE 1048576 es) (hk : OkE es) (ha : ElemsAt w B v es) :
    Calls Tryz.prog 31 #[v] w fun e w' => e = .returned (.agg #[.int .i64 (wcode es), .string ⟨(wtext es).toArray⟩]) ∧ Below w.heap.size w w' := by
  obtain ⟨a, cap, rfl⟩ := ha.slice
  have hlen := hl.1
  have hb0 : Below w.heap.size w (w.alloc (.cells #[.int .i64 0, .string { data := #[] }] 36)) := (Below.refl _ w).alloc (Nat.le_refl _) _
  have HF := hid (specFault1 B es _ (w.alloc (.cells #[.int .i64 0, .string { data := #[] }] 36)) (by omega) hk (ha.below hb0))
  have HA := hid ha
  clear ha hl hk
  go_enter Tryz.func31, Tryz.ntmps31
  go_wp2_with fail
  refine HF.out.mono ?_
  rintro e w1 ⟨rfl, hb1⟩
  have B1 : Below w.heap.size w w1 := hb0.trans (hb1.mono (by simp))
  simp only [World.size_alloc] at hb1
  have l1 : w.heap.size < w1.heap.size := by have := hb1.size; simp at this; omega
  have r0 := kept_cell hb1 (b := w.heap.size) (o := 0) (v := .int .i64 0) (by omega) (by go_simp)
  have r1 := kept_cell hb1 (b := w.heap.size) (o := 1) (v := .string { data := #[] }) (by omega) (by go_simp)
  have f0 := kept_free hb1 (b := w.heap.size) (o := 0) (by omega) (by go_simp)
  have f1 := kept_free hb1 (b := w.heap.size) (o := 1) (by omega) (by go_simp)
  by_cases hf : fault es = 0
  · have b1 : (fault es != 0) = false := by simp [hf]
    have hG := good_of hf
    have hle := hG.le
    have hpos := hG.pos
    have HG := hid hG
    have HFZ := hid hf
    clear hf hG
    go_wp2
    go_loopw [4] (fun i wr => ∃ j : Nat, i = .int .i64 j ∧ j ≤ es.length ∧ Hid (∀ m, m < j → (markK es m).length ≤ 600) ∧ Below w.heap.size w wr ∧ Below w1.heap.size w1 wr) (fun i _ => es.length - (intOf i).toNat)
    case atStart => exact ⟨0, rfl, Nat.zero_le _, fun m hm => by omega, B1, Below.refl _ _⟩
    case round =>
      obtain ⟨j, rfl, hj, HJ, hbel, hbel1⟩ := hrel
      have l2 : w.heap.size < wr.heap.size := by have := hbel1.size; omega
      have s0 := kept_cell hbel1 l1 r0
      have s1 := kept_cell hbel1 l1 r1
      have t0 := kept_free hbel1 l1 f0
      have t1 := kept_free hbel1 l1 f1
      by_cases hlt : j < es.length
      · have q1 : (j : Int) < (es.length : Int) := by omega
        have HM := hid (specMark B es _ j wr HG.out hlt (HA.out.below hbel))
        have hml := mark_len HG.out hlt
        by_cases h6 : (markK es j).length ≤ 600
        · have HJ2 : Hid (∀ m, m < j + 1 → (markK es m).length ≤ 600) := hid (fun m hm => by
            by_cases e : m = j
            · subst e; exact h6
            · exact HJ.out m (by omega))
          generalize markK es j = mk at *
          have b2 : ¬ (600 : Int) < (mk.length : Int) := by omega
          go_wp2_with fail
          refine HM.out.mono ?_
          rintro e w3 ⟨rfl, hb3⟩
          go_wp2
          exact ⟨⟨j + 1, by simp, by omega, HJ2, hbel.trans (hb3.mono hbel.size), hbel1.trans (hb3.mono hbel1.size)⟩, by simp [intOf]; omega⟩
        · have HV := hid (w_many HFZ.out (fun h => h6 (short_of HG.out h.1 j hlt)))
          generalize markK es j = mk at *
          have b2 : (600 : Int) < (mk.length : Int) := by omega
          go_wp2_with fail
          refine HM.out.mono ?_
          rintro e w3 ⟨rfl, hb3⟩
          have l3 : w.heap.size < w3.heap.size := by have := hb3.size; omega
          have u0 := kept_cell hb3 l2 s0
          have u1 := kept_cell hb3 l2 s1
          have x0 := kept_free hb3 l2 t0
          have x1 := kept_free hb3 l2 t1
          have B3 := hbel.trans (hb3.mono hbel.size)
          go_wp2
          exact bodyPost_ret (v := .agg #[.int .i64 2, .string { data := #[] }]) (by simp [results, Tryz.results31, go_sem, u0, u1]) rfl ⟨ret_txt (s := []) HV.out.1.symm HV.out.2.symm, setB (setB B3 (Nat.le_refl _) _) (Nat.le_refl _) _⟩
      · have hall : okF es es.length 0 = true := ok_of (fun k hk => HJ.out k (by omega)) _ _ hpos
        have HO := hid hall
        have HWr := hid (specWrite B es HG.out es.length 0 _ wr hpos (by omega) hle (HA.out.below hbel))
        have hwl := wr_len HG.out es.length hpos
        clear hall
        by_cases h15 : (wrF es es.length 0).length ≤ 1500
        · have HV := hid (w_ok HFZ.out HO.out h15)
          generalize wrF es es.length 0 = tx at *
          have b2 : ¬ (1500 : Int) < (tx.length : Int) := by omega
          go_wp2_with fail
          refine HWr.out.mono ?_
          rintro e w3 ⟨rfl, hb3⟩
          have l3 : w.heap.size < w3.heap.size := by have := hb3.size; omega
          have u0 := kept_cell hb3 l2 s0
          have u1 := kept_cell hb3 l2 s1
          have x0 := kept_free hb3 l2 t0
          have x1 := kept_free hb3 l2 t1
          have B3 := hbel.trans (hb3.mono hbel.size)
          go_wp2
          exact bodyPost_ret (v := .agg #[.int .i64 0, .string ⟨tx.toArray⟩]) (by simp [results, Tryz.results31, go_sem, u0, u1]) rfl ⟨ret_txt HV.out.1.symm HV.out.2.symm, setB (setB B3 (Nat.le_refl _) _) (Nat.le_refl _) _⟩
        · have HV := hid (w_many HFZ.out (fun h => h15 h.2))
          generalize wrF es es.length 0 = tx at *
          have b2 : (1500 : Int) < (tx.length : Int) := by omega
          go_wp2_with fail
          refine HWr.out.mono ?_
          rintro e w3 ⟨rfl, hb3⟩
          have l3 : w.heap.size < w3.heap.size := by have := hb3.size; omega
          have u0 := kept_cell hb3 l2 s0
          have u1 := kept_cell hb3 l2 s1
          have x0 := kept_free hb3 l2 t0
          have x1 := kept_free hb3 l2 t1
          have B3 := hbel.trans (hb3.mono hbel.size)
          go_wp2
          exact bodyPost_ret (v := .agg #[.int .i64 2, .string { data := #[] }]) (by simp [results, Tryz.results31, go_sem, u0, u1]) rfl ⟨ret_txt (s := []) HV.out.1.symm HV.out.2.symm, setB (setB B3 (Nat.le_refl _) _) (Nat.le_refl _) _⟩
  · have HV := hid (w_fault hf)
    have b1 : (fault es != 0) = true := by simpa using hf
    clear hf
    go_wp2
    exact bodyPost_ret (v := .agg #[.int .i64 (fault es), .string { data := #[] }]) (by simp [results, Tryz.results31, go_sem, r0, r1]) rfl ⟨ret_txt (s := []) HV.out.1.symm HV.out.2.symm, setB (setB B1 (Nat.le_refl _) _) (Nat.le_refl _) _⟩
end Tr
end Go.Proofs.YtgghigfflpbjiaaGreatDoor
/- A mark that begins an element, and one that ends it, as the program writes them. Condition: the table of entities lies as its initialiser lays it. -/
namespace Go.Proofs.YtgghigfflpbjiaaGreatDoor
open Go.RowKit
set_option linter.unusedVariables false
namespace Tr
open Esc (esc escAll escAll_len)
theorem isb_below {T e : TypeId} {B b : Nat} {bs : List Value} {w w' : World} (h : Lib.IsBuilderF T e B b bs w) (hb : Below w.heap.size w w') : Lib.IsBuilderF T e B b bs w' := by
  have step : ∀ {p : Value}, Lib.BuilderAtF T e B b p bs w → Lib.BuilderAtF T e B b p bs w' := fun {p} h => by
    obtain ⟨h1, v, h2, h3, h4⟩ := h
    refine ⟨h1, v, by rw [hb.block b (Array.getElem?_eq_some_iff.1 h2).1]; exact h2, h3.kept (row := none) ⟨hb.os, hb.tape, hb.output, hb.size, fun k hk _ => hb.block k hk⟩ (by cases v.ownBlock <;> simp), h4⟩
  exact h.elim (fun x => .inl (step x)) (fun x => .inr (step x))
theorem others_below {e : TypeId} {b : Option Nat} {w w' : World} (h : Below w.heap.size w w') : Lib.OthersKept e b w w' := fun k o hk _ _ => by
  rw [h.block k (Array.getElem?_eq_some_iff.1 hk).1]; exact hk
theorem cells_app (l : List UInt8) (s : ByteArray) : Lib.byteCells l ++ Lib.strCells s = Lib.byteCells (l ++ s.data.toList) := by simp [Lib.byteCells, Lib.strCells]
theorem others_heap {b k : Nat} {w w' : World} {c : Array Value} {t : TypeId} {fz : Nat × Nat} (h : Lib.OthersKept 5 (some b) w w') (hk : w.heap[k]? = some (.cells c t fz)) (hb : k ≠ b) (ht : t ≠ 5) : w'.heap[k]? = some (.cells c t fz) :=
  h k _ hk (fun e => hb (Option.some.inj e)) (fun c' fz' e => by cases e; exact ht rfl)
theorem add_str (a b : ByteArray) (h : a.size + b.size ≤ 1000000) (w : World) : Sem.run Tryz.prog (Op.stringOp .add a b) w = .ok (.string (a ++ b)) w := run_string_add_sum w a b (by omega)
theorem fld1 (c : Int) (t : ByteArray) (w : World) : Sem.run Tryz.prog (Instr.field 36 (.agg #[.int .i64 c, .string t]) 1) w = .ok (.string t) w := by kernel_rfl
theorem bytes_piece (a : AttrD) : (ByteArray.mk #[32] ++ a.name ++ ByteArray.mk #[61, 34] ++ ByteArray.mk (escAll a.value.data.toList).toArray ++ ByteArray.mk #[34]).data.toList = piece a := by simp [piece]
set_option maxRecDepth 100000 in
set_option maxHeartbeats 400000 in
theorem endOf (t : ByteArray) (w : World) (ht : t.size ≤ 8) : Calls Tryz.prog 90 #[.string t] w fun e w' => e = .returned (.string ⟨([60, 47] ++ t.data.toList ++ [62]).toArray⟩) ∧ w' = w := by
  go_enter Tryz.func90, Tryz.ntmps90
  go_wp2
  go_ret
  exact ⟨by apply congrArg Ending.returned; apply congrArg Value.string; apply ByteArray.ext; simp, rfl⟩
set_option maxRecDepth 100000 in
set_option maxHeartbeats 4000000 in
theorem beginOf (B0 : Nat) (x : ElemD) (va : Value) (cl : Bool) (w : World) (ha : AttrsAt w B0 va x.attrs) (he : Esc.Ent w) (hw : 2 < w.heap.size) (ht8 : x.tag.size ≤ 8) (hl6 : x.attrs.length ≤ 6) (hat : ∀ a ∈ x.attrs, nf a.name.data.toList = 0 ∧ vcode a.value.data.toList = 0) :
    Calls Tryz.prog 88 #[.agg #[.string x.tag, .int .i64 x.parent, va], .bool cl] w fun e w' => e = .returned (.string ⟨(markB x cl).toArray⟩) ∧ Below w.heap.size w w' := by
  obtain ⟨b, e2, rfl⟩ := ha.slice
  have hbx : Below w.heap.size w ((w.alloc (.cells #[.string x.tag, .int .i64 x.parent, .slice b x.attrs.length e2] 53)).alloc (.cells #[.pointer none, .slice none 0 0] 99)) := ((Below.refl _ w).alloc (Nat.le_refl _) _).alloc (by simp) _
  have hI0 := Esc.fresh w (.cells #[.string x.tag, .int .i64 x.parent, .slice b x.attrs.length e2] 53)
  have HA := hid ha
  have HE := hid he
  have HAT := hid hat
  clear ha he hat
  go_enter Tryz.func88, Tryz.ntmps88
  go_wp2_with fail
  have hsz : (ByteArray.mk #[60] ++ x.tag).size ≤ 9 := by
    have : (ByteArray.mk #[60] ++ x.tag).size = 1 + x.tag.size := by simp; rfl
    omega
  refine (Bld.writeString (w.heap.size + 1) (w.heap.size + 1) (Lib.byteCells []) (ByteArray.mk #[60] ++ x.tag) _ hI0 (by rw [Lib.byteCells_length]; simp only [List.length_nil]; omega) (by simp)).mono ?_
  rintro e w1 ⟨rfl, hI1, hb1, hk1⟩
  have hI1' : Lib.IsBuilderF 99 5 (w.heap.size + 1) (w.heap.size + 1) (Lib.byteCells (60 :: x.tag.data.toList)) w1 := by
    have h : Lib.IsBuilderF 99 5 (w.heap.size + 1) (w.heap.size + 1) (Lib.byteCells [] ++ Lib.strCells (ByteArray.mk #[60] ++ x.tag)) w1 := .inr hI1
    rw [cells_app] at h
    have e : [] ++ (ByteArray.mk #[60] ++ x.tag).data.toList = 60 :: x.tag.data.toList := by simp
    rw [e] at h
    exact h
  have B1 : Below w.heap.size w w1 := hbx.trans (hb1.mono (by omega))
  have hz1 := Esc.blt hI1'
  have c2 := kept_cell hb1 (b := w.heap.size) (o := 2) (v := .slice b x.attrs.length e2) (by omega) (by go_simp)
  have HI1 := hid hI1'
  clear hI1 hI1' hb1 hk1 hI0 hbx
  go_wp2_with fail
  go_loopw [7, 15] (fun _ i wr => ∃ (j : Nat) (acc : List UInt8), i = .int .i64 j ∧ j ≤ x.attrs.length ∧ acc.length ≤ 9 + 252 * j ∧ Hid (acc = 60 :: x.tag.data.toList ++ pieces (x.attrs.take j)) ∧ Hid (Lib.IsBuilderF 99 5 (w.heap.size + 1) (w.heap.size + 1) (Lib.byteCells acc) wr) ∧ Below w.heap.size w wr) (fun _ i _ => x.attrs.length - (intOf i).toNat)
  case atStart => exact ⟨0, _, rfl, Nat.zero_le _, by simp; omega, hid (by simp [pieces]), HI1, B1⟩
  case round =>
    obtain ⟨j, acc, rfl, hj, hacc, HC, HI, hbel⟩ := hrel
    have hz := Esc.blt HI.out
    by_cases hlt : j < x.attrs.length
    · obtain ⟨g3, o3, rfl, hg3, n0, n1⟩ := (HA.out.below hbel).at hlt
      have q1 : (j : Int) < (x.attrs.length : Int) := by omega
      have hat := HAT.out x.attrs[j] (List.getElem_mem hlt)
      have hn8 : x.attrs[j].name.size ≤ 8 := by rw [← len_size']; exact nf_len hat.1
      have hv40 : x.attrs[j].value.size ≤ 40 := by rw [← len_size']; exact v_len hat.2
      have hel := escAll_len x.attrs[j].value.data.toList
      rw [len_size'] at hel
      have hpl := piece_len hat.1 hat.2
      have HEV := hid (Esc.escVal_ok (l := x.attrs[j].value.data.toList) hat.2)
      have HC2 : Hid (acc ++ piece x.attrs[j] = 60 :: x.tag.data.toList ++ pieces (x.attrs.take (j + 1))) := hid (by rw [pieces_snoc hlt, HC.out]; simp)
      have HPC := hid (bytes_piece x.attrs[j])
      have hps : (ByteArray.mk #[32] ++ x.attrs[j].name ++ ByteArray.mk #[61, 34] ++ ByteArray.mk (escAll x.attrs[j].value.data.toList).toArray ++ ByteArray.mk #[34]).size ≤ 252 := by
        rw [← len_size', HPC.out]; exact hpl
      have HENT := hid (fun w' (hb : Below wr.heap.size wr w') => Esc.implEsc x.attrs[j].value w' (by unfold maxLen; omega) (Esc.Ent.below (Esc.Ent.below HE.out hbel hw) hb (by omega)) (by have := hb.size; omega))
      generalize hax : x.attrs[j] = ax at *
      clear hat hax
      have hB0 : Below wr.heap.size wr (wr.alloc (.cells #[.string ax.name, .string ax.value] 68)) := (Below.refl _ wr).alloc (Nat.le_refl _) _
      have m0 : (wr.alloc (.cells #[.string ax.name, .string ax.value] 68)).cell? ⟨wr.heap.size, 0, none⟩ = some (.string ax.name) := by go_simp
      have m1 : (wr.alloc (.cells #[.string ax.name, .string ax.value] 68)).cell? ⟨wr.heap.size, 1, none⟩ = some (.string ax.value) := by go_simp
      have mh : (wr.alloc (.cells #[.string ax.name, .string ax.value] 68)).heap[wr.heap.size]? = some (.cells #[.string ax.name, .string ax.value] 68 (0, 0)) := World.alloc_heap_new wr _
      have z32 : (ByteArray.mk #[32]).size = 1 := rfl
      have z61 : (ByteArray.mk #[61, 34]).size = 2 := rfl
      have z34 : (ByteArray.mk #[34]).size = 1 := rfl
      have zes : (ByteArray.mk (escAll ax.value.data.toList).toArray).size = (escAll ax.value.data.toList).length := by simp [ByteArray.size]
      have ad1 := add_str (ByteArray.mk #[32]) ax.name (by omega)
      have ad2 := add_str (ByteArray.mk #[32] ++ ax.name) (ByteArray.mk #[61, 34]) (by simp only [ByteArray.size_append]; omega)
      have ad3 := add_str (ByteArray.mk #[32] ++ ax.name ++ ByteArray.mk #[61, 34]) (ByteArray.mk (escAll ax.value.data.toList).toArray) (by simp only [ByteArray.size_append]; omega)
      have ad4 := add_str (ByteArray.mk #[32] ++ ax.name ++ ByteArray.mk #[61, 34] ++ ByteArray.mk (escAll ax.value.data.toList).toArray) (ByteArray.mk #[34]) (by simp only [ByteArray.size_append]; omega)
      clear z32 z61 z34 zes
      have hsA : (wr.alloc (.cells #[.string ax.name, .string ax.value] 68)).heap.size = wr.heap.size + 1 := by simp
      go_wp2_with fail
      generalize wr.alloc (.cells #[.string ax.name, .string ax.value] 68) = WA at *
      have HIA := hid (isb_below HI.out hB0)
      have hBD : Below WA.heap.size WA WA.drew := (Below.refl _ WA).drew
      have hBwA : Below w.heap.size w WA := hbel.trans (hB0.mono hbel.size)
      go_region_held3 (fun wx => wx.cell? ⟨wr.heap.size, 0, none⟩ = some (.string ax.name) ∧ wx.cell? ⟨wr.heap.size, 1, none⟩ = some (.string ax.value) ∧ Below w.heap.size w wx) (refine ⟨?_, ?_, ?_⟩ <;> first | assumption | exact hBwA.drew | (simp [*]; done)) (first
        | (go_at_call 108; refine (HENT.out _ ?_).mono ?_; exact hB0.trans (hBD.mono (by omega)); rintro e w4 ⟨rfl, hb4⟩; rw [HEV.out]; have hB4 : Below WA.heap.size WA w4 := hBD.trans hb4; clear hb4; have hBw4 : Below w.heap.size w w4 := (hbel.trans (hB0.mono hbel.size)).trans (hB4.mono (by omega)); have mh4 : w4.heap[wr.heap.size]? = some (.cells #[.string ax.name, .string ax.value] 68 (0, 0)) := by {rw [hB4.block _ (by omega)]; exact mh}; have k0 : w4.cell? ⟨wr.heap.size, 0, none⟩ = some (.string ax.name) := kept_cell hB4 (by omega) m0; have k1 : w4.cell? ⟨wr.heap.size, 1, none⟩ = some (.string ax.value) := kept_cell hB4 (by omega) m1; have hfl := fld1 0 ⟨(escAll ax.value.data.toList).toArray⟩; have HI4 := hid (isb_below HIA.out hB4); have hz4 := hB4.size)
        | (go_at_call 89; refine (Bld.writeString (w.heap.size + 1) (w.heap.size + 1) (Lib.byteCells acc) _ _ HI4.out ?_ ?_).mono ?_; (rw [Lib.byteCells_length]; omega); omega; rintro e w5 ⟨rfl, hI5, hb5, hk5⟩; have hBw5 : Below w.heap.size w w5 := hBw4.trans (hb5.mono (by omega)); have mh5 := others_heap hk5 mh4 (by omega) (by decide); have k50 : w5.cell? ⟨wr.heap.size, 0, none⟩ = some (.string ax.name) := by {simp [World.cell?, mh5]}; have k51 : w5.cell? ⟨wr.heap.size, 1, none⟩ = some (.string ax.value) := by {simp [World.cell?, mh5]}))
      have HI5 : Hid (Lib.IsBuilderF 99 5 (w.heap.size + 1) (w.heap.size + 1) (Lib.byteCells (acc ++ piece ax)) w5) := hid (by
        have h : Lib.IsBuilderF 99 5 (w.heap.size + 1) (w.heap.size + 1) (Lib.byteCells acc ++ Lib.strCells (ByteArray.mk #[32] ++ ax.name ++ ByteArray.mk #[61, 34] ++ ByteArray.mk (escAll ax.value.data.toList).toArray ++ ByteArray.mk #[34])) w5 := .inr hI5
        rw [cells_app, HPC.out] at h
        exact h)
      clear hI5 hk5 hb5 ad1 ad2 ad3 ad4 hfl
      go_wp2
      exact ⟨⟨j + 1, acc ++ piece ax, by simp, by omega, by rw [List.length_append]; omega, HC2, HI5, hBw5⟩, by simp [intOf]; omega⟩
    · have HAll : Hid (acc = 60 :: x.tag.data.toList ++ pieces x.attrs) := hid (by rw [HC.out, List.take_of_length_le (by omega)])
      have hI := HI.out
      have z47 : (ByteArray.mk #[47]).size = 1 := rfl
      have z62 : (ByteArray.mk #[62]).size = 1 := rfl
      cases cl
      · have HV : Hid (markB x false = acc ++ [62]) := hid (by unfold markB; rw [if_neg (by decide), HAll.out])
        go_wp2_with fail
        refine (Bld.writeString (w.heap.size + 1) (w.heap.size + 1) (Lib.byteCells acc) (ByteArray.mk #[62]) _ hI (by rw [Lib.byteCells_length]; omega) (by omega)).mono ?_
        rintro e w5 ⟨rfl, hI5, hb5, hk5⟩
        have hI5' : Lib.IsBuilderF 99 5 (w.heap.size + 1) (w.heap.size + 1) (Lib.byteCells (acc ++ [62])) w5 := by
          have h : Lib.IsBuilderF 99 5 (w.heap.size + 1) (w.heap.size + 1) (Lib.byteCells acc ++ Lib.strCells (ByteArray.mk #[62])) w5 := .inr hI5
          rw [cells_app] at h
          exact h
        have hz5 := Esc.blt hI5'
        have B5 := hbel.trans (hb5.mono (by omega))
        go_wp2_with fail
        refine (Tryz.Builder_String_any_k (w.heap.size + 1) (w.heap.size + 1) (acc ++ [62]) _ hI5' (by omega)).mono ?_
        rintro e w6 ⟨rfl, hI6, hb6, hk6⟩
        go_wp2
        go_ret
        exact ⟨by rw [HV.out]; rfl, B5.trans (hb6.mono (by omega))⟩
      · have HV : Hid (markB x true = acc ++ [47, 62]) := hid (by unfold markB; rw [if_pos rfl, HAll.out])
        go_wp2_with fail
        refine (Bld.writeString (w.heap.size + 1) (w.heap.size + 1) (Lib.byteCells acc) (ByteArray.mk #[47]) _ hI (by rw [Lib.byteCells_length]; omega) (by omega)).mono ?_
        rintro e w4 ⟨rfl, hI4, hb4, hk4⟩
        have hI4' : Lib.IsBuilderF 99 5 (w.heap.size + 1) (w.heap.size + 1) (Lib.byteCells (acc ++ [47])) w4 := by
          have h : Lib.IsBuilderF 99 5 (w.heap.size + 1) (w.heap.size + 1) (Lib.byteCells acc ++ Lib.strCells (ByteArray.mk #[47])) w4 := .inr hI4
          rw [cells_app] at h
          exact h
        have hz4 := Esc.blt hI4'
        have B4 := hbel.trans (hb4.mono (by omega))
        go_wp2_with fail
        refine (Bld.writeString (w.heap.size + 1) (w.heap.size + 1) (Lib.byteCells (acc ++ [47])) (ByteArray.mk #[62]) _ hI4' (by rw [Lib.byteCells_length, List.length_append]; simp only [List.length_cons, List.length_nil]; omega) (by omega)).mono ?_
        rintro e w5 ⟨rfl, hI5, hb5, hk5⟩
        have hI5' : Lib.IsBuilderF 99 5 (w.heap.size + 1) (w.heap.size + 1) (Lib.byteCells (acc ++ [47] ++ [62])) w5 := by
          have h : Lib.IsBuilderF 99 5 (w.heap.size + 1) (w.heap.size + 1) (Lib.byteCells (acc ++ [47]) ++ Lib.strCells (ByteArray.mk #[62])) w5 := .inr hI5
          rw [cells_app] at h
          exact h
        have hz5 := Esc.blt hI5'
        have B5 := B4.trans (hb5.mono (by omega))
        go_wp2_with fail
        refine (Tryz.Builder_String_any_k (w.heap.size + 1) (w.heap.size + 1) (acc ++ [47] ++ [62]) _ hI5' (by omega)).mono ?_
        rintro e w6 ⟨rfl, hI6, hb6, hk6⟩
        go_wp2
        go_ret
        exact ⟨by rw [HV.out]; rfl, B5.trans (hb6.mono (by omega))⟩
end Tr
end Go.Proofs.YtgghigfflpbjiaaGreatDoor
/- An element with all below it, as the program writes it. Condition: the table of entities lies as its initialiser lays it. -/
namespace Go.Proofs.YtgghigfflpbjiaaGreatDoor
open Go.RowKit
set_option linter.unusedVariables false
namespace Tr
/-- All that is read of a tree with nothing wrong, in a world. -/
structure Laid (w : World) (es : List ElemD) (v : Value) (T : Nat → Br) : Prop where
  good : Good es
  tree : ∃ B, TreeAt w B v es.length T
  tag : ∀ j (h : j < es.length), (T j).tag = es[j].tag
  par : ∀ j (h : j < es.length), (T j).par = es[j].parent
  va : ∀ j (h : j < es.length), AttrsAt w 0 (T j).va es[j].attrs
  kids : ∀ j, j < es.length → (T j).kids = kidsA es j
  ent : Esc.Ent w
  pos : 2 < w.heap.size
theorem Laid.below {w w' : World} {es : List ElemD} {v : Value} {T : Nat → Br} (h : Laid w es v T) (hb : Below w.heap.size w w') : Laid w' es v T := by
  obtain ⟨B, ht⟩ := h.tree
  exact ⟨h.good, ⟨B, ht.below hb⟩, h.tag, h.par, fun j hj => (h.va j hj).below hb, h.kids, Esc.Ent.below h.ent hb h.pos, Nat.lt_of_lt_of_le h.pos hb.size⟩
theorem ok_leaf {es : List ElemD} {f k : Nat} (h : (kidsA es k).length = 0) (hm : (markK es k).length ≤ 600) : okF es (f + 1) k = true ∧ wrF es (f + 1) k = markK es k := by
  have e := List.length_eq_zero_iff.1 h
  exact ⟨by rw [okF, e]; simp [hm], wr_leaf (by rw [e]; rfl)⟩
theorem ok_long {es : List ElemD} {f k : Nat} (hm : ¬ (markK es k).length ≤ 600) : okF es (f + 1) k = false := by rw [okF]; simp [hm]
theorem ok_kid {es : List ElemD} {f k c : Nat} (hc : c ∈ kidsA es k) (h : okF es f c = false) : okF es (f + 1) k = false := by
  rw [okF, Bool.and_eq_false_iff]
  right
  rw [List.all_eq_false]
  exact ⟨c, hc, by simp [h]⟩
theorem ok_node {es : List ElemD} {f k : Nat} (hm : (markK es k).length ≤ 600) (h : ∀ c ∈ kidsA es k, okF es f c = true) : okF es (f + 1) k = true := by
  rw [okF, Bool.and_eq_true, List.all_eq_true]
  exact ⟨by simpa using hm, h⟩
theorem mk_size (l : List UInt8) : (ByteArray.mk l.toArray).size = l.length := by simp [ByteArray.size]
set_option maxRecDepth 100000 in
set_option maxHeartbeats 8000000 in
theorem writeElem (es : List ElemD) (v : Value) (T : Nat → Br) (W0 : World) (hL : Laid W0 es v T) (b : Nat) (hb0 : W0.heap.size ≤ b) : ∀ (f k : Nat) (acc : List UInt8) (w : World), k < es.length → es.length - k ≤ f → f ≤ 40 → acc.length + f * 3000000 ≤ 200000000 → Below W0.heap.size W0 w → Lib.IsBuilderF 99 5 W0.heap.size b (Lib.byteCells acc) w →
    Calls Tryz.prog 57 #[.pointer (some ⟨b, 0, none⟩), v, .int .i64 (k : Int)] w fun e w' => e = .returned (.bool (okF es f k)) ∧ (okF es f k = true → Lib.IsBuilderF 99 5 W0.heap.size b (Lib.byteCells (acc ++ wrF es f k)) w') ∧ Below W0.heap.size w w' ∧ Lib.OthersKept 5 (some b) w w'
  | 0, k, acc, w, hk, hf, _, _, _, _ => by omega
  | f + 1, k, acc, w, hk, hf, hf40, hacc, hbw, hI => by
    have HIH := hid (fun c acc w (h1 : c < es.length) (h2 : es.length - c ≤ f) (h3 : acc.length + f * 3000000 ≤ 200000000) (h4 : Below W0.heap.size W0 w) (h5 : Lib.IsBuilderF 99 5 W0.heap.size b (Lib.byteCells acc) w) => writeElem es v T W0 hL b hb0 f c acc w h1 h2 (by omega) h3 h4 h5)
    have hLw := hL.below hbw
    obtain ⟨Bt, hT⟩ := hLw.tree
    obtain ⟨a4, c4, rfl⟩ := hT.slice
    obtain ⟨g, rfl, _, hBg, hg, d0, d1, d2, d3, d4, d5, _⟩ := hT.at hk
    have hva := hLw.va k hk
    have hkids := hT.kids k hk
    have hin0 : Ints.IntsAt W0 (T k).kv (ints (kidsA es k)) := by
      obtain ⟨B1, hT1⟩ := hL.tree
      have h := hT1.kids k hk
      rw [hL.kids k hk, kidVals_eq, ← ints_len] at h
      exact Ints.IntsAt.of h
    have HIN0 := hid hin0
    clear hin0
    rw [hLw.tag k hk] at d0
    rw [hLw.par k hk] at d1
    rw [hLw.kids k hk] at hkids
    generalize (T k).va = va at *
    generalize (T k).kv = kv at *
    obtain ⟨a3, c3, rfl⟩ := hva.slice
    rw [kidVals_eq, ← ints_len] at hkids
    have HIN := hid (Ints.IntsAt.of hkids)
    rw [ints_len] at hkids
    obtain ⟨x5, y5, rfl⟩ := Ints.owns_slice hkids
    have HVA := hid hva
    have HL := hid hL
    have HI := hid hI
    have hG := hL.good
    have hle := hG.le
    have hml := mark_len hG hk
    have hkl : (kidsA es k).length ≤ 40 := by have := kidsN_le (es := es) (n := es.length) (j := k); unfold kidsA; omega
    have hz := Esc.blt hI
    have hbsz := hbw.size
    have q0 : (k : Int) < (es.length : Int) := by omega
    have HG := hid hG
    clear hva hkids d3 d4 hT hLw hL hI hG
    go_enter Tryz.func57, Tryz.ntmps57
    go_wp2
    go_region
    have hB1 : Below w.heap.size w (w.alloc (.cells #[.string es[k].tag, .int .i64 es[k].parent, .slice a3 es[k].attrs.length c3] 53)).drew := ((Below.refl _ w).alloc (Nat.le_refl _) _).drew
    have mh : (w.alloc (.cells #[.string es[k].tag, .int .i64 es[k].parent, .slice a3 es[k].attrs.length c3] 53)).drew.heap[w.heap.size]? = some (.cells #[.string es[k].tag, .int .i64 es[k].parent, .slice a3 es[k].attrs.length c3] 53 (0, 0)) := World.alloc_heap_new w _
    have m0 : (w.alloc (.cells #[.string es[k].tag, .int .i64 es[k].parent, .slice a3 es[k].attrs.length c3] 53)).drew.cell? ⟨w.heap.size, 0, none⟩ = some (.string es[k].tag) := by go_simp
    have m1 : (w.alloc (.cells #[.string es[k].tag, .int .i64 es[k].parent, .slice a3 es[k].attrs.length c3] 53)).drew.cell? ⟨w.heap.size, 1, none⟩ = some (.int .i64 es[k].parent) := by go_simp
    have m2 : (w.alloc (.cells #[.string es[k].tag, .int .i64 es[k].parent, .slice a3 es[k].attrs.length c3] 53)).drew.cell? ⟨w.heap.size, 2, none⟩ = some (.slice a3 es[k].attrs.length c3) := by go_simp
    have hs1 : (w.alloc (.cells #[.string es[k].tag, .int .i64 es[k].parent, .slice a3 es[k].attrs.length c3] 53)).drew.heap.size = w.heap.size + 1 := by simp
    generalize (w.alloc (.cells #[.string es[k].tag, .int .i64 es[k].parent, .slice a3 es[k].attrs.length c3] 53)).drew = w1 at *
    have hbw1 : Below W0.heap.size W0 w1 := hbw.trans (hB1.mono hbsz)
    have hL1 := HL.out.below hbw1
    have HBG := hid (fun cl => beginOf 0 es[k] (.slice a3 es[k].attrs.length c3) cl w1 (HVA.out.below hB1) hL1.ent hL1.pos (by rw [← len_size']; exact nf_len (HG.out.tag k hk)) (HG.out.len k hk) (HG.out.attrs hk))
    have HI1 := hid (isb_below HI.out hB1)
    have ht8 : es[k].tag.size ≤ 8 := by rw [← len_size']; exact nf_len (HG.out.tag k hk)
    have hEJ := EJ_eq hk
    have hcl : decide ((kidsA es k).length = 0) = (kidsA es k).isEmpty := by
      cases h : kidsA es k <;> simp
    have HMK : Hid (∀ cl, cl = (kidsA es k).isEmpty → markB es[k] cl = markK es k) := hid (fun cl h => by unfold markK; rw [hEJ, h])
    clear hL1 hEJ d0 d1 d2 d5
    by_cases hk0 : (kidsA es k).length = 0
    · have b1 : (((kidsA es k).length : Int) == 0) = true := beq_iff_eq.2 (by omega)
      have HM1 := hid (HBG.out true)
      rw [HMK.out true (by rw [← hcl]; simp [hk0])] at HM1
      have HK0 := hid hk0
      clear hcl hk0 HBG
      by_cases h6 : (markK es k).length ≤ 600
      · have HOK := hid (ok_leaf (f := f) HK0.out h6)
        generalize markK es k = mk at *
        have b2 : ¬ (600 : Int) < (mk.length : Int) := by omega
        have hmz : (ByteArray.mk mk.toArray).size = mk.length := by simp [ByteArray.size]
        go_wp2_with fail
        refine HM1.out.mono ?_
        rintro e w2 ⟨rfl, hb2⟩
        have HI2 := hid (isb_below HI1.out hb2)
        have hz2 := hb2.size
        go_wp2_with fail
        refine (Bld.writeString W0.heap.size b (Lib.byteCells acc) ⟨mk.toArray⟩ _ HI2.out (by rw [Lib.byteCells_length, hmz]; omega) (by omega)).mono ?_
        rintro e w3 ⟨rfl, hI3, hb3, hk3⟩
        have HI3 : Hid (Lib.IsBuilderF 99 5 W0.heap.size b (Lib.byteCells (acc ++ mk)) w3) := hid (by
          have h : Lib.IsBuilderF 99 5 W0.heap.size b (Lib.byteCells acc ++ Lib.strCells ⟨mk.toArray⟩) w3 := .inr hI3
          rw [cells_app] at h
          exact h)
        have hBf : Below W0.heap.size w w3 := (hB1.mono hbsz).trans ((hb2.mono (by omega)).trans hb3)
        have hOf : Lib.OthersKept 5 (some b) w w3 := ((others_below hB1).trans (others_below hb2)).trans hk3
        clear hI3 hb3 hk3
        go_wp2
        go_ret
        exact ⟨by rw [HOK.out.1]; rfl, fun _ => by rw [HOK.out.2]; exact HI3.out, hBf, hOf⟩
      · have HOK := hid (ok_long (f := f) h6)
        generalize markK es k = mk at *
        have b2 : (600 : Int) < (mk.length : Int) := by omega
        go_wp2_with fail
        refine HM1.out.mono ?_
        rintro e w2 ⟨rfl, hb2⟩
        have hBf : Below W0.heap.size w w2 := (hB1.mono hbsz).trans (hb2.mono (by omega))
        have hOf : Lib.OthersKept 5 (some b) w w2 := (others_below hB1).trans (others_below hb2)
        go_wp2
        go_ret
        exact ⟨by rw [HOK.out]; rfl, (fun h => by rw [HOK.out] at h; cases h), hBf, hOf⟩
    · have b1 : (((kidsA es k).length : Int) == 0) = false := beq_eq_false_iff_ne.2 (by omega)
      have HM1 := hid (HBG.out false)
      rw [HMK.out false (by rw [← hcl]; simp [hk0])] at HM1
      have HNE : Hid ((kidsA es k).isEmpty = false) := hid (by rw [← hcl]; simp [hk0])
      clear hcl hk0 HBG
      by_cases h6 : (markK es k).length ≤ 600
      · have H6 := hid h6
        have HWN := hid (wr_node (f := f) HNE.out)
        rw [EJ_eq hk] at HWN
        have HKL := hid (fun m => wr_kids_len HG.out f (k := k) (m := m))
        have HKM : Hid (∀ c ∈ kidsA es k, k < c ∧ c < es.length) := hid (fun c hc => kid_gt HG.out hc)
        have HOKN : Hid ((∀ c ∈ kidsA es k, okF es f c = true) → okF es (f + 1) k = true) := hid (ok_node h6)
        have HOKB : Hid (∀ c ∈ kidsA es k, okF es f c = false → okF es (f + 1) k = false) := hid (fun c hc h => ok_kid hc h)
        have hl40 : f * 61400 ≤ 2456000 := by omega
        generalize kidsA es k = ks at *
        generalize markK es k = mk at *
        have b2 : ¬ (600 : Int) < (mk.length : Int) := by omega
        have hmz : (ByteArray.mk mk.toArray).size = mk.length := by simp [ByteArray.size]
        go_wp2_with fail
        refine HM1.out.mono ?_
        rintro e w2 ⟨rfl, hb2⟩
        have HI2 := hid (isb_below HI1.out hb2)
        have hz2 := hb2.size
        go_wp2_with fail
        refine (Bld.writeString W0.heap.size b (Lib.byteCells acc) ⟨mk.toArray⟩ _ HI2.out (by rw [Lib.byteCells_length, hmz]; omega) (by omega)).mono ?_
        rintro e w3 ⟨rfl, hI3, hb3, hk3⟩
        have HI3 : Hid (Lib.IsBuilderF 99 5 W0.heap.size b (Lib.byteCells (acc ++ mk)) w3) := hid (by
          have h : Lib.IsBuilderF 99 5 W0.heap.size b (Lib.byteCells acc ++ Lib.strCells ⟨mk.toArray⟩) w3 := .inr hI3
          rw [cells_app] at h
          exact h)
        have hBf : Below W0.heap.size w w3 := (hB1.mono hbsz).trans ((hb2.mono (by omega)).trans hb3)
        have hOf : Lib.OthersKept 5 (some b) w w3 := ((others_below hB1).trans (others_below hb2)).trans hk3
        have mh2 : w2.heap[w.heap.size]? = some (.cells #[.string es[k].tag, .int .i64 es[k].parent, .slice a3 es[k].attrs.length c3] 53 (0, 0)) := by rw [hb2.block _ (by omega)]; exact mh
        have mh3 := others_heap hk3 mh2 (by omega) (by decide)
        have HINw : Hid (∀ wx, Below W0.heap.size w wx → Ints.IntsAt wx (.slice x5 ks.length y5) (ints ks)) := hid (fun wx hx => HIN0.out.below (hbw.trans hx))
        clear hI3 hb3 hk3 mh2
        go_wp2
        go_loopw [11, 38] (fun _ i wr => ∃ (j : Nat), i = .int .i64 j ∧ j ≤ ks.length ∧ Hid (∀ c ∈ ks.take j, okF es f c = true) ∧ Hid (Lib.IsBuilderF 99 5 W0.heap.size b (Lib.byteCells (acc ++ mk ++ (ks.take j).flatMap (wrF es f))) wr) ∧ Below W0.heap.size w wr ∧ Lib.OthersKept 5 (some b) w3 wr) (fun _ i _ => ks.length - (intOf i).toNat)
        case atStart => exact ⟨0, rfl, Nat.zero_le _, hid (by simp), hid (by simpa using HI3.out), hBf, Lib.OthersKept.refl _ _ _⟩
        case round =>
          obtain ⟨j, rfl, hj, HALL, HJ, hBr, hOr⟩ := hrel
          have hzr := Esc.blt HJ.out
          by_cases hlt : j < ks.length
          · obtain ⟨g3, rfl, hg3, n0⟩ := (HINw.out wr hBr).at (i := j) (by rw [ints_len]; exact hlt)
            have e1 : (ints ks)[j]'(by rw [ints_len]; exact hlt) = (ks[j] : Int) := by simp [ints]
            rw [e1] at n0
            have hmem := List.getElem_mem hlt
            have hck := HKM.out ks[j] hmem
            have q1 : (j : Int) < (ks.length : Int) := by omega
            have hkj := HKL.out j
            have HR := hid (HIH.out ks[j] (acc ++ mk ++ (ks.take j).flatMap (wrF es f)) wr hck.2 (by omega) (by simp only [List.length_append]; omega) (hbw.trans hBr) HJ.out)
            have hsnoc : ks.take (j + 1) = ks.take j ++ [ks[j]] := List.take_succ_eq_append_getElem hlt
            have HSN := hid hsnoc
            clear hsnoc e1
            cases hokc : okF es f ks[j]
            · have HBAD := hid (HOKB.out ks[j] hmem hokc)
              rw [hokc] at HR
              clear hokc
              generalize ks[j] = c at *
              go_wp2_with fail
              refine HR.out.mono ?_
              rintro e w5 ⟨rfl, _, hb5, hk5⟩
              go_wp2
              go_ret
              exact ⟨by rw [HBAD.out]; rfl, (fun h => by rw [HBAD.out] at h; cases h), hBr.trans hb5, (hOf.trans hOr).trans hk5⟩
            · have HALL2 : Hid (∀ c ∈ ks.take (j + 1), okF es f c = true) := hid (fun c hc => by
                rw [HSN.out] at hc
                rcases List.mem_append.1 hc with h | h
                · exact HALL.out c h
                · obtain rfl := List.mem_singleton.1 h
                  exact hokc)
              rw [hokc] at HR
              clear hokc
              generalize hcc : ks[j] = c at *
              have HCE : Hid (acc ++ mk ++ (ks.take j).flatMap (wrF es f) ++ wrF es f c = acc ++ mk ++ (ks.take (j + 1)).flatMap (wrF es f)) := hid (by rw [HSN.out, List.flatMap_append]; simp)
              clear hcc
              go_wp2_with fail
              refine HR.out.mono ?_
              rintro e w5 ⟨rfl, hI5, hb5, hk5⟩
              have HI5 := hid (hI5 trivial)
              rw [HCE.out] at HI5
              clear hI5
              go_wp2
              exact ⟨⟨j + 1, by simp, by omega, HALL2, HI5, hBr.trans hb5, hOr.trans hk5⟩, by simp [intOf]; omega⟩
          · have htk : ks.take j = ks := List.take_of_length_le (by omega)
            rw [htk] at HALL HJ
            have HOK := hid (HOKN.out HALL.out)
            have hkj := HKL.out ks.length
            rw [List.take_length] at hkj
            have mhr := others_heap hOr mh3 (by omega) (by decide)
            have y0 : wr.cell? ⟨w.heap.size, 0, none⟩ = some (.string es[k].tag) := by simp [World.cell?, mhr]
            have hzw : w.heap.size < wr.heap.size := (Array.getElem?_eq_some_iff.1 mhr).1
            have HFIN : Hid (acc ++ mk ++ ks.flatMap (wrF es f) ++ ([60, 47] ++ es[k].tag.data.toList ++ [62]) = acc ++ wrF es (f + 1) k) := hid (by rw [HWN.out]; simp [endB])
            have hez : (ByteArray.mk ([60, 47] ++ es[k].tag.data.toList ++ [62]).toArray).size ≤ 11 := by
              rw [mk_size]
              simp only [List.length_append, List.length_cons, List.length_nil, len_size']
              omega
            clear htk mhr
            go_wp2_with (go_at_call 90; refine (endOf es[k].tag _ ht8).mono ?_; rintro e w' ⟨rfl, rfl⟩)
            refine (Bld.writeString W0.heap.size b (Lib.byteCells (acc ++ mk ++ ks.flatMap (wrF es f))) _ _ HJ.out ?_ (by have := hBr.size; omega)).mono ?_
            · have hez2 : (ByteArray.mk (60 :: 47 :: (es[k].tag.data.toList ++ [62])).toArray).size ≤ 11 := hez
              rw [Lib.byteCells_length]
              simp only [List.length_append]
              omega
            rintro e w7 ⟨rfl, hI7, hb7, hk7⟩
            have HI7 : Hid (Lib.IsBuilderF 99 5 W0.heap.size b (Lib.byteCells (acc ++ wrF es (f + 1) k)) w7) := hid (by
              have h : Lib.IsBuilderF 99 5 W0.heap.size b (Lib.byteCells (acc ++ mk ++ ks.flatMap (wrF es f)) ++ Lib.strCells ⟨([60, 47] ++ es[k].tag.data.toList ++ [62]).toArray⟩) w7 := .inr hI7
              rw [cells_app] at h
              rw [← HFIN.out]
              exact h)
            clear hI7
            go_wp2
            go_ret
            exact ⟨by rw [HOK.out]; rfl, fun _ => HI7.out, hBr.trans hb7, (hOf.trans hOr).trans hk7⟩
      · have HOK := hid (ok_long (f := f) h6)
        generalize markK es k = mk at *
        have b2 : (600 : Int) < (mk.length : Int) := by omega
        go_wp2_with fail
        refine HM1.out.mono ?_
        rintro e w2 ⟨rfl, hb2⟩
        have hBf : Below W0.heap.size w w2 := (hB1.mono hbsz).trans (hb2.mono (by omega))
        have hOf : Lib.OthersKept 5 (some b) w w2 := (others_below hB1).trans (others_below hb2)
        go_wp2
        go_ret
        exact ⟨by rw [HOK.out]; rfl, (fun h => by rw [HOK.out] at h; cases h), hBf, hOf⟩
end Tr
end Go.Proofs.YtgghigfflpbjiaaGreatDoor
/- WriteTree of the program. Condition: the table of entities lies as its initialiser lays it. -/
namespace Go.Proofs.YtgghigfflpbjiaaGreatDoor
open Go.RowKit
set_option linter.unusedVariables false
namespace Tr
theorem fresh1 (w : World) : Lib.IsBuilderF 99 5 w.heap.size w.heap.size (Lib.byteCells []) (w.alloc (.cells #[.pointer none, .slice none 0 0] 99)) :=
  Lib.IsBuilderF.of (Lib.fresh_isBuilder 99 5 w)
set_option maxRecDepth 100000 in
set_option maxHeartbeats 2000000 in
theorem implWriteTree (es : List ElemD) (v : Value) (w : World) (hl : SmallE 1048576 es) (hk : OkE es) (ha : ElemsAt w 0 v es) (he : Esc.Ent w) (hw : 2 < w.heap.size) :
    Calls Tryz.prog 32 #[v] w fun e w' => e = .returned (.agg #[.int .i64 (wcode es), .string ⟨(wtext es).toArray⟩]) ∧ Below w.heap.size w w' := by
  obtain ⟨a, cap, rfl⟩ := ha.slice
  have hlen := hl.1
  have hb0 : Below w.heap.size w (w.alloc (.cells #[.int .i64 0, .string { data := #[] }] 36)) := (Below.refl _ w).alloc (Nat.le_refl _) _
  have HF := hid (elemTree es _ (w.alloc (.cells #[.int .i64 0, .string { data := #[] }] 36)) hl hk (ha.below hb0) (Esc.Ent.below he hb0 hw) (by simp; omega))
  have HE := hid (Esc.Ent.below he hb0 hw)
  clear ha hl hk he
  go_enter Tryz.func32, Tryz.ntmps32
  go_wp2_with fail
  refine HF.out.mono ?_
  rintro e w1 ⟨⟨v1, rfl, hv1, hv2⟩, hb1⟩
  have B1 : Below w.heap.size w w1 := hb0.trans (hb1.mono (by simp))
  have HB1 := hid hb1
  simp only [World.size_alloc] at hb1
  have l1 : w.heap.size < w1.heap.size := by have := hb1.size; simp at this; omega
  have r0 := kept_cell hb1 (b := w.heap.size) (o := 0) (v := .int .i64 0) (by omega) (by go_simp)
  have r1 := kept_cell hb1 (b := w.heap.size) (o := 1) (v := .string { data := #[] }) (by omega) (by go_simp)
  have f0 := kept_free hb1 (b := w.heap.size) (o := 0) (by omega) (by go_simp)
  have f1 := kept_free hb1 (b := w.heap.size) (o := 1) (by omega) (by go_simp)
  by_cases hf : fault es = 0
  · have b1 : (fault es != 0) = false := by simp [hf]
    obtain ⟨T, hT, hI⟩ := hv2 hf
    have hG := good_of hf
    have HLD : Hid (Laid w1 es v1 T) := hid ⟨hG, ⟨_, hT⟩, fun j h => hI.tag j h h, fun j h => hI.par j h h, fun j h => (hI.va j h h).below HB1.out, fun j h => hI.kids j h, Esc.Ent.below HE.out HB1.out (by simp; omega), by have := HB1.out.size; simp at this; omega⟩
    have HFZ := hid hf
    have hle := hG.le
    have hpos := hG.pos
    have HWR := hid (writeElem es v1 T w1 HLD.out w1.heap.size (Nat.le_refl _) es.length 0 [] (w1.alloc (.cells #[.pointer none, .slice none 0 0] 99)) hpos (by omega) hle (by simp only [List.length_nil]; omega) ((Below.refl _ w1).alloc (Nat.le_refl _) _) (fresh1 w1))
    have hwl := wr_len hG es.length hpos
    have hBa : Below w1.heap.size w1 (w1.alloc (.cells #[.pointer none, .slice none 0 0] 99)) := (Below.refl _ w1).alloc (Nat.le_refl _) _
    obtain ⟨at4, ct4, rfl⟩ := hT.slice
    clear hT hI hv1 hv2 hf hG
    cases hok : okF es es.length 0
    · have HV := hid (w_many HFZ.out (fun h => by rw [hok] at h; exact absurd h.1 (by decide)))
      rw [hok] at HWR
      clear hok
      go_wp2_with (go_at_call 57; refine HWR.out.mono ?_; rintro e w3 ⟨rfl, _, hb3, _⟩; have l3 : w.heap.size < w3.heap.size := by {have := (hBa.trans hb3).size; omega}; have u0 := kept_cell (hBa.trans hb3) l1 r0; have u1 := kept_cell (hBa.trans hb3) l1 r1; have x0 := kept_free (hBa.trans hb3) l1 f0; have x1 := kept_free (hBa.trans hb3) l1 f1; have B3 := B1.trans ((hBa.trans hb3).mono B1.size))
      exact bodyPost_ret (v := .agg #[.int .i64 2, .string { data := #[] }]) (by simp [results, Tryz.results32, go_sem, u0, u1]) rfl ⟨ret_txt (s := []) HV.out.1.symm HV.out.2.symm, setB (setB B3 (Nat.le_refl _) _) (Nat.le_refl _) _⟩
    · have HO := hid hok
      rw [hok] at HWR
      clear hok
      by_cases h15 : (wrF es es.length 0).length ≤ 1500
      · have HV := hid (w_ok HFZ.out HO.out h15)
        generalize wrF es es.length 0 = tx at *
        have b2 : ¬ (1500 : Int) < (tx.length : Int) := by omega
        go_wp2_with (first
          | (go_at_call 57; refine HWR.out.mono ?_; rintro e w3 ⟨rfl, hI3, hb3, _⟩; have HI3 := hid (hI3 trivial); rw [List.nil_append] at HI3; clear hI3; have hz3 := (hBa.trans hb3).size; have l3 : w.heap.size < w3.heap.size := by {omega}; have u0 := kept_cell (hBa.trans hb3) l1 r0; have u1 := kept_cell (hBa.trans hb3) l1 r1; have x0 := kept_free (hBa.trans hb3) l1 f0; have x1 := kept_free (hBa.trans hb3) l1 f1; have B3 := B1.trans ((hBa.trans hb3).mono B1.size))
          | (go_at_call 58; refine (Tryz.Builder_Len_f _ _ _ _ HI3.out).mono ?_; rintro e w4 ⟨rfl, rfl⟩; rw [Lib.byteCells_length])
          | (go_at_call 59; refine (Tryz.Builder_String_any_k _ _ _ _ HI3.out hz3).mono ?_; rintro e w4 ⟨rfl, _, hb4, _⟩; have l4 : w.heap.size < w4.heap.size := by {have := hb4.size; omega}; have u40 := kept_cell hb4 l1 u0; have u41 := kept_cell hb4 l1 u1; have x40 := kept_free hb4 l1 x0; have x41 := kept_free hb4 l1 x1; have B4 := B3.trans (hb4.mono B1.size)))
        exact bodyPost_ret (v := .agg #[.int .i64 0, .string ⟨tx.toArray⟩]) (by simp [results, Tryz.results32, go_sem, u40, u41]) rfl ⟨ret_txt HV.out.1.symm HV.out.2.symm, setB (setB B4 (Nat.le_refl _) _) (Nat.le_refl _) _⟩
      · have HV := hid (w_many HFZ.out (fun h => h15 h.2))
        generalize wrF es es.length 0 = tx at *
        have b2 : (1500 : Int) < (tx.length : Int) := by omega
        go_wp2_with (first
          | (go_at_call 57; refine HWR.out.mono ?_; rintro e w3 ⟨rfl, hI3, hb3, _⟩; have HI3 := hid (hI3 trivial); rw [List.nil_append] at HI3; clear hI3; have hz3 := (hBa.trans hb3).size; have l3 : w.heap.size < w3.heap.size := by {omega}; have u0 := kept_cell (hBa.trans hb3) l1 r0; have u1 := kept_cell (hBa.trans hb3) l1 r1; have x0 := kept_free (hBa.trans hb3) l1 f0; have x1 := kept_free (hBa.trans hb3) l1 f1; have B3 := B1.trans ((hBa.trans hb3).mono B1.size))
          | (go_at_call 58; refine (Tryz.Builder_Len_f _ _ _ _ HI3.out).mono ?_; rintro e w4 ⟨rfl, rfl⟩; rw [Lib.byteCells_length]))
        exact bodyPost_ret (v := .agg #[.int .i64 2, .string { data := #[] }]) (by simp [results, Tryz.results32, go_sem, u0, u1]) rfl ⟨ret_txt (s := []) HV.out.1.symm HV.out.2.symm, setB (setB B3 (Nat.le_refl _) _) (Nat.le_refl _) _⟩
  · have HV := hid (w_fault hf)
    have b1 : (fault es != 0) = true := by simpa using hf
    obtain rfl := hv1 hf
    clear hf hv1 hv2
    go_wp2
    exact bodyPost_ret (v := .agg #[.int .i64 (fault es), .string { data := #[] }]) (by simp [results, Tryz.results32, go_sem, r0, r1]) rfl ⟨ret_txt (s := []) HV.out.1.symm HV.out.2.symm, setB (setB B1 (Nat.le_refl _) _) (Nat.le_refl _) _⟩
end Tr
end Go.Proofs.YtgghigfflpbjiaaGreatDoor
/- WriteProc, of the specification and of the program. -/
namespace Go.Proofs.YtgghigfflpbjiaaGreatDoor
open Go.RowKit
set_option linter.unusedVariables false
namespace Tf
open Ex (hid)
open St (StepD)
open Tr (ElemD ElemsAt fault SmallE OkE)
open Pf (Rul pFault kept_cell kept_free setB of_p)
def wpC (ss : List StepD) : Int := if treeC ss = 0 then Tr.wcode (treeE ss) else treeC ss
def wpT (ss : List StepD) : ByteArray := if treeC ss = 0 then ⟨(Tr.wtext (treeE ss)).toArray⟩ else ⟨#[]⟩
theorem wpC_ok {ss : List StepD} (h : treeC ss = 0) : wpC ss = Tr.wcode (treeE ss) ∧ wpT ss = ⟨(Tr.wtext (treeE ss)).toArray⟩ := ⟨if_pos h, if_pos h⟩
theorem wpC_bad {ss : List StepD} (h : treeC ss ≠ 0) : wpC ss = treeC ss ∧ wpT ss = ⟨#[]⟩ := ⟨if_neg h, if_neg h⟩
theorem treeE_two (ss : List StepD) : treeE ss = [] ∨ (pFault ss = 0 ∧ treeE ss = treeL ss) := by
  unfold treeE
  by_cases h : treeC ss = 0
  · rw [if_pos h]
    by_cases hp : pFault ss = 0
    · exact .inr ⟨hp, rfl⟩
    · rw [treeC_p hp] at h; exact absurd h hp
  · rw [if_neg h]; exact .inl rfl
theorem treeE_sm (ss : List StepD) : SmallE 1048576 (treeE ss) := by
  rcases treeE_two ss with h | ⟨hp, h⟩
  · rw [h]; exact ⟨by simp, fun e he => by simp at he⟩
  · rw [h]; exact tree_smallE hp
theorem treeE_ok (ss : List StepD) : OkE (treeE ss) := by
  rcases treeE_two ss with h | ⟨hp, h⟩
  · rw [h]; intro e he; simp at he
  · rw [h]; exact tree_okE hp
set_option maxRecDepth 100000 in
set_option maxHeartbeats 4000000 in
theorem specWriteProc (B : Nat) (ss : List StepD) (v : Value) (w : World) (hsm : St.Small 1048576 ss) (ha : St.At w B v ss) :
    Calls Tryz.prog 14 #[v] w fun e w' => e = .returned (.agg #[.int .i64 (wpC ss), .string (wpT ss)]) ∧ Below w.heap.size w w' := by
  obtain ⟨a, cap, rfl⟩ := ha.slice
  have HB0 : Hid (Below w.heap.size w (w.alloc (.cells #[.int .i64 0, .string ⟨#[]⟩] 36))) := hid ((Below.refl _ w).alloc (Nat.le_refl _) _)
  have HF := hid (specTreeOf B ss _ _ hsm (ha.below HB0.out))
  have HWT := hid (fun u wx (hb : Below w.heap.size w wx) (hu : ElemsAt wx 0 u (treeE ss)) => Tr.specWriteTree 0 (treeE ss) u wx (treeE_sm ss) (treeE_ok ss) hu)
  have HC := hid (wpC_ok (ss := ss))
  have HCB := hid (wpC_bad (ss := ss))
  generalize hcc : treeC ss = cc at *
  generalize hee : treeE ss = es at *
  clear ha hsm  hcc hee
  go_enter Tryz.func14, Tryz.ntmps14
  go_wp2_with fail
  refine HF.out.mono ?_
  rintro e w1 ⟨⟨u, rfl, ho1⟩, hb1⟩
  obtain ⟨au, cu, rfl⟩ := ho1.slice
  have HE1 := hid (ho1.elems.mono (Nat.zero_le _))
  have HB1 : Hid (Below w.heap.size w w1) := hid (HB0.out.trans (hb1.mono HB0.out.size))
  have hz : (w.alloc (.cells #[.int .i64 0, .string ⟨#[]⟩] 36)).heap.size = w.heap.size + 1 := by simp
  have l1 : w.heap.size + 1 ≤ w1.heap.size := by have := hb1.size; omega
  have u0 := kept_cell hb1 (b := w.heap.size) (o := 0) (v := .int .i64 0) (by omega) (by go_simp)
  have u1 := kept_cell hb1 (b := w.heap.size) (o := 1) (v := .string ⟨#[]⟩) (by omega) (by go_simp)
  have x0 := kept_free hb1 (b := w.heap.size) (o := 0) (by omega) (by go_simp)
  have x1 := kept_free hb1 (b := w.heap.size) (o := 1) (by omega) (by go_simp)
  have hx2 : Below w1.heap.size w1 (w1.alloc (.cells #[.int .i64 cc, .int .i64 0, .slice au es.length cu] 26)) := (Below.refl _ w1).alloc (Nat.le_refl _) _
  have v0 := kept_cell hx2 (by omega) u0
  have v1 := kept_cell hx2 (by omega) u1
  have y0 := kept_free hx2 (by omega) x0
  have y1 := kept_free hx2 (by omega) x1
  have t0 : (w1.alloc (.cells #[.int .i64 cc, .int .i64 0, .slice au es.length cu] 26)).cell? ⟨w1.heap.size, 0, none⟩ = some (.int .i64 cc) := by go_simp
  have t2 : (w1.alloc (.cells #[.int .i64 cc, .int .i64 0, .slice au es.length cu] 26)).cell? ⟨w1.heap.size, 2, none⟩ = some (.slice au es.length cu) := by go_simp
  have HB2 := hid (HB1.out.trans (hx2.mono HB1.out.size))
  have HE2 := hid (HE1.out.below hx2)
  have l2 : w.heap.size < (w1.alloc (.cells #[.int .i64 cc, .int .i64 0, .slice au es.length cu] 26)).heap.size := by simp; omega
  clear u0 u1 x0 x1 hx2 HE1 HB1 HF hz ho1 hb1
  by_cases hc : cc = 0
  · have HCK := hid (HC.out hc)
    have b1 : (cc != 0) = false := by simp [hc]
    have HW2 := hid (HWT.out _ _ HB2.out HE2.out)
    generalize hcw : Tr.wcode es = cw at *
    generalize htw : Tr.wtext es = tw at *
    clear hc HC HCB hcw htw
    go_wp2_with fail
    generalize w1.alloc (.cells #[.int .i64 cc, .int .i64 0, .slice au es.length cu] 26) = w2 at *
    refine HW2.out.mono ?_
    rintro e w3 ⟨rfl, hb3⟩
    have r0 := kept_cell hb3 l2 v0
    have r1 := kept_cell hb3 l2 v1
    have s0 := kept_free hb3 l2 y0
    have s1 := kept_free hb3 l2 y1
    have HB3 := hid (HB2.out.trans (hb3.mono HB2.out.size))
    clear hb3 HW2
    go_wp2
    exact bodyPost_ret (v := .agg #[.int .i64 cw, .string ⟨tw.toArray⟩]) (by simp [results, Tryz.results14, go_sem, r0, r1]) rfl ⟨by rw [HCK.out.1, HCK.out.2], setB (setB HB3.out (Nat.le_refl _) _) (Nat.le_refl _) _⟩
  · have HCK := hid (HCB.out hc)
    have b1 : (cc != 0) = true := bne_iff_ne.2 hc
    clear hc HC HCB
    go_wp2
    exact bodyPost_ret (v := .agg #[.int .i64 cc, .string ⟨#[]⟩]) (by simp [results, Tryz.results14, go_sem, v0, v1]) rfl ⟨by rw [HCK.out.1, HCK.out.2], setB (setB HB2.out (Nat.le_refl _) _) (Nat.le_refl _) _⟩
set_option maxRecDepth 100000 in
set_option maxHeartbeats 4000000 in
theorem implWriteProc (ss : List StepD) (v : Value) (w : World) (hsm : St.Small 1048576 ss) (ha : St.At w 0 v ss) (hr : Rul w) (ht : Ex.Tab w) (he : Esc.Ent w) (hw : 2 < w.heap.size) :
    Calls Tryz.prog 15 #[v] w fun e w' => e = .returned (.agg #[.int .i64 (wpC ss), .string (wpT ss)]) ∧ Below w.heap.size w w' := by
  obtain ⟨a, cap, rfl⟩ := ha.slice
  have HB0 : Hid (Below w.heap.size w (w.alloc (.cells #[.int .i64 0, .string ⟨#[]⟩] 36))) := hid ((Below.refl _ w).alloc (Nat.le_refl _) _)
  have hgl := hr.lt
  have HEN := hid he
  have HF := hid (implTreeOf ss _ _ hsm (ha.below HB0.out) (hr.below HB0.out hgl) (ht.below HB0.out) (Esc.Ent.below he HB0.out hw) (by have := HB0.out.size; omega))
  have HWT := hid (fun u wx (hb : Below w.heap.size w wx) (hu : ElemsAt wx 0 u (treeE ss)) => Tr.implWriteTree (treeE ss) u wx (treeE_sm ss) (treeE_ok ss) hu (Esc.Ent.below HEN.out hb hw) (by have := hb.size; omega))
  have HC := hid (wpC_ok (ss := ss))
  have HCB := hid (wpC_bad (ss := ss))
  generalize hcc : treeC ss = cc at *
  generalize hee : treeE ss = es at *
  clear ha hsm hr ht he hcc hee
  go_enter Tryz.func15, Tryz.ntmps15
  go_wp2_with fail
  refine HF.out.mono ?_
  rintro e w1 ⟨⟨u, rfl, ho1⟩, hb1⟩
  obtain ⟨au, cu, rfl⟩ := ho1.slice
  have HE1 := hid (ho1.elems.mono (Nat.zero_le _))
  have HB1 : Hid (Below w.heap.size w w1) := hid (HB0.out.trans (hb1.mono HB0.out.size))
  have hz : (w.alloc (.cells #[.int .i64 0, .string ⟨#[]⟩] 36)).heap.size = w.heap.size + 1 := by simp
  have l1 : w.heap.size + 1 ≤ w1.heap.size := by have := hb1.size; omega
  have u0 := kept_cell hb1 (b := w.heap.size) (o := 0) (v := .int .i64 0) (by omega) (by go_simp)
  have u1 := kept_cell hb1 (b := w.heap.size) (o := 1) (v := .string ⟨#[]⟩) (by omega) (by go_simp)
  have x0 := kept_free hb1 (b := w.heap.size) (o := 0) (by omega) (by go_simp)
  have x1 := kept_free hb1 (b := w.heap.size) (o := 1) (by omega) (by go_simp)
  have hx2 : Below w1.heap.size w1 (w1.alloc (.cells #[.int .i64 cc, .int .i64 0, .slice au es.length cu] 26)) := (Below.refl _ w1).alloc (Nat.le_refl _) _
  have v0 := kept_cell hx2 (by omega) u0
  have v1 := kept_cell hx2 (by omega) u1
  have y0 := kept_free hx2 (by omega) x0
  have y1 := kept_free hx2 (by omega) x1
  have t0 : (w1.alloc (.cells #[.int .i64 cc, .int .i64 0, .slice au es.length cu] 26)).cell? ⟨w1.heap.size, 0, none⟩ = some (.int .i64 cc) := by go_simp
  have t2 : (w1.alloc (.cells #[.int .i64 cc, .int .i64 0, .slice au es.length cu] 26)).cell? ⟨w1.heap.size, 2, none⟩ = some (.slice au es.length cu) := by go_simp
  have HB2 := hid (HB1.out.trans (hx2.mono HB1.out.size))
  have HE2 := hid (HE1.out.below hx2)
  have l2 : w.heap.size < (w1.alloc (.cells #[.int .i64 cc, .int .i64 0, .slice au es.length cu] 26)).heap.size := by simp; omega
  clear u0 u1 x0 x1 hx2 HE1 HB1 HF hz ho1 hb1
  by_cases hc : cc = 0
  · have HCK := hid (HC.out hc)
    have b1 : (cc != 0) = false := by simp [hc]
    have HW2 := hid (HWT.out _ _ HB2.out HE2.out)
    generalize hcw : Tr.wcode es = cw at *
    generalize htw : Tr.wtext es = tw at *
    clear hc HC HCB hcw htw
    go_wp2_with fail
    generalize w1.alloc (.cells #[.int .i64 cc, .int .i64 0, .slice au es.length cu] 26) = w2 at *
    refine HW2.out.mono ?_
    rintro e w3 ⟨rfl, hb3⟩
    have r0 := kept_cell hb3 l2 v0
    have r1 := kept_cell hb3 l2 v1
    have s0 := kept_free hb3 l2 y0
    have s1 := kept_free hb3 l2 y1
    have HB3 := hid (HB2.out.trans (hb3.mono HB2.out.size))
    clear hb3 HW2
    go_wp2
    exact bodyPost_ret (v := .agg #[.int .i64 cw, .string ⟨tw.toArray⟩]) (by simp [results, Tryz.results15, go_sem, r0, r1]) rfl ⟨by rw [HCK.out.1, HCK.out.2], setB (setB HB3.out (Nat.le_refl _) _) (Nat.le_refl _) _⟩
  · have HCK := hid (HCB.out hc)
    have b1 : (cc != 0) = true := bne_iff_ne.2 hc
    clear hc HC HCB
    go_wp2
    exact bodyPost_ret (v := .agg #[.int .i64 cc, .string ⟨#[]⟩]) (by simp [results, Tryz.results15, go_sem, v0, v1]) rfl ⟨by rw [HCK.out.1, HCK.out.2], setB (setB HB2.out (Nat.le_refl _) _) (Nat.le_refl _) _⟩
end Tf
end Go.Proofs.YtgghigfflpbjiaaGreatDoor
