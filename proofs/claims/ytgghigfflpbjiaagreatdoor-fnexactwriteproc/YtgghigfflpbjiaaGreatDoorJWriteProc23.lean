/- Laid together: WrM, TrVa, IntsX. -/
import Derived.Test.YtgghigfflpbjiaaGreatDoorJWriteProc19
import Derived.Test.YtgghigfflpbjiaaGreatDoorJWriteProc22
import Derived.Test.YtgghigfflpbjiaaGreatDoorJWriteProc9
import Derived.Test.YtgghigfflpbjiaaGreatDoorJWriteProc5
import Derived.Deep.QuietTactic
import Derived.BigQuiet
import Derived.Laws.OwnMore
import Derived.RangeFuncBox
/- Plain facts about what is written of a tree, of no program. -/
namespace Go.Proofs.YtgghigfflpbjiaaGreatDoor
set_option linter.unusedVariables false
namespace Tr
open Esc (esc escAll escAll_len)
def piece (a : AttrD) : List UInt8 := 32 :: a.name.data.toList ++ [61, 34] ++ escAll a.value.data.toList ++ [34]
def pieces (l : List AttrD) : List UInt8 := l.flatMap piece
def markB (e : ElemD) (closed : Bool) : List UInt8 := 60 :: e.tag.data.toList ++ pieces e.attrs ++ (if closed then [47, 62] else [62])
def endB (e : ElemD) : List UInt8 := [60, 47] ++ e.tag.data.toList ++ [62]
def EJ (es : List ElemD) (k : Nat) : ElemD := es[k]?.getD ⟨ByteArray.empty, 0, []⟩
theorem EJ_eq {es : List ElemD} {k : Nat} (h : k < es.length) : EJ es k = es[k] := by unfold EJ; rw [List.getElem?_eq_getElem h]; rfl
def kidsA (es : List ElemD) (k : Nat) : List Nat := kidsN es es.length k
def markK (es : List ElemD) (k : Nat) : List UInt8 := markB (EJ es k) (kidsA es k).isEmpty
def wrF (es : List ElemD) : Nat → Nat → List UInt8
  | 0, _ => []
  | f + 1, k => markK es k ++ (if (kidsA es k).isEmpty then [] else (kidsA es k).flatMap (wrF es f) ++ endB (EJ es k))
def okF (es : List ElemD) : Nat → Nat → Bool
  | 0, _ => true
  | f + 1, k => decide ((markK es k).length ≤ 600) && (kidsA es k).all (okF es f)
/-- What is known of a tree with nothing wrong. -/
structure Good (es : List ElemD) : Prop where
  pos : 0 < es.length
  le : es.length ≤ 40
  low : ∀ j (h : j < es.length), es[j].parent < j
  par : ∀ j (h : j < es.length), 0 < j → 0 ≤ es[j].parent
  tag : ∀ j (h : j < es.length), nf es[j].tag.data.toList = 0
  len : ∀ j (h : j < es.length), es[j].attrs.length ≤ 6
  att : ∀ j (h : j < es.length), acode es[j].attrs = 0
theorem good_of {es : List ElemD} (h : fault es = 0) : Good es := by
  have hz : ¬ es.length < 1 ∧ ¬ 40 < es.length := by
    by_cases e : es.length < 1 ∨ 40 < es.length
    · rw [fault_many e] at h; omega
    · omega
  have all : ∀ i, i ≤ es.length → ∃ S, Seen es i S ∧ ∀ j (hj : j < es.length), j < i → es[j].parent < j ∧ (0 < j → 0 ≤ es[j].parent) ∧ nf es[j].tag.data.toList = 0 ∧ es[j].attrs.length ≤ 6 ∧ acode es[j].attrs = 0 := by
    intro i
    induction i with
    | zero => exact fun _ => ⟨[], Seen.start hz.1 hz.2, fun j _ hj => by omega⟩
    | succ i ih =>
      intro hi
      obtain ⟨S, hs, ho⟩ := ih (by omega)
      have hlt : i < es.length := by omega
      by_cases hn : nf es[i].tag.data.toList = 0
      · by_cases hp : (i = 0 ∧ es[i].parent ≠ -1) ∨ (0 < i ∧ ¬ (0 ≤ es[i].parent ∧ es[i].parent < i))
        · rw [hs.range hlt hn hp] at h; omega
        · by_cases hf : 0 < i ∧ onPath es[i].parent S = false
          · rw [hs.form hlt hn hp hf] at h; omega
          · by_cases hm : 8 < (cutTo es[i].parent S).length + 1 ∨ 6 < es[i].attrs.length
            · rw [hs.many hlt hn hp hf hm] at h; omega
            · by_cases ha : acode es[i].attrs = 0
              · refine ⟨_, hs.next hlt hn hp hf hm ha, fun j hj hji => ?_⟩
                by_cases e : j = i
                · subst e
                  refine ⟨low_of hj hp, fun h0 => ?_, hn, by omega, ha⟩
                  have : ¬ ¬ (0 ≤ es[j].parent ∧ es[j].parent < j) := fun e => hp (.inr ⟨h0, e⟩)
                  omega
                · exact ho j hj (by omega)
              · rw [hs.attr hlt hn hp hf hm ha] at h; exact absurd h ha
      · rw [hs.name hlt hn] at h; exact absurd h hn
  obtain ⟨S, _, ho⟩ := all es.length (Nat.le_refl _)
  exact ⟨by omega, by omega, fun j hj => (ho j hj hj).1, fun j hj => (ho j hj hj).2.1, fun j hj => (ho j hj hj).2.2.1, fun j hj => (ho j hj hj).2.2.2.1, fun j hj => (ho j hj hj).2.2.2.2⟩
theorem acode_all : ∀ {l pre : List AttrD}, acodeFrom pre l = 0 → ∀ a ∈ l, nf a.name.data.toList = 0 ∧ vcode a.value.data.toList = 0
  | [], _, _, a, ha => by cases ha
  | b :: r, pre, h, a, ha => by
    rw [acodeFrom] at h
    by_cases h1 : nf b.name.data.toList = 0
    · rw [if_neg (by simp [h1])] at h
      by_cases h2 : hasName pre b.name = true
      · rw [if_pos h2] at h; omega
      · rw [if_neg h2] at h
        by_cases h3 : vcode b.value.data.toList = 0
        · rw [if_neg (by simp [h3])] at h
          rcases List.mem_cons.1 ha with rfl | ha
          · exact ⟨h1, h3⟩
          · exact acode_all h a ha
        · rw [if_pos h3] at h; exact absurd h h3
    · rw [if_pos h1] at h; exact absurd h h1
theorem nf_len {l : List UInt8} (h : nf l = 0) : l.length ≤ 8 := by
  unfold nf at h
  by_cases e1 : azAll l = false
  · rw [if_pos e1] at h; omega
  · rw [if_neg e1] at h
    by_cases e2 : l.length = 0
    · omega
    · rw [if_neg e2] at h
      by_cases e3 : 8 < l.length
      · rw [if_pos e3] at h; omega
      · omega
theorem v_len {l : List UInt8} (h : vcode l = 0) : l.length ≤ 40 := by
  unfold vcode at h
  by_cases e1 : 40 < l.length
  · rw [if_pos e1] at h; omega
  · omega
theorem piece_len {a : AttrD} (h1 : nf a.name.data.toList = 0) (h2 : vcode a.value.data.toList = 0) : (piece a).length ≤ 252 := by
  have h3 := nf_len h1
  have h4 := v_len h2
  have h5 := escAll_len a.value.data.toList
  simp only [piece, List.length_append, List.length_cons, List.length_nil]
  omega
theorem pieces_len : ∀ {l : List AttrD}, (∀ a ∈ l, (piece a).length ≤ 252) → (pieces l).length ≤ 252 * l.length
  | [], _ => by simp [pieces]
  | a :: r, h => by
    have h1 := h a (by simp)
    have h2 := pieces_len (l := r) (fun b hb => h b (by simp [hb]))
    unfold pieces at *
    simp only [List.flatMap_cons, List.length_append, List.length_cons]
    omega
theorem Good.attrs {es : List ElemD} (h : Good es) {k : Nat} (hk : k < es.length) : ∀ a ∈ es[k].attrs, nf a.name.data.toList = 0 ∧ vcode a.value.data.toList = 0 := acode_all (pre := []) (h.att k hk)
theorem Good.pl {es : List ElemD} (h : Good es) {k : Nat} (hk : k < es.length) : ∀ a ∈ es[k].attrs, (piece a).length ≤ 252 := fun a ha => piece_len (h.attrs hk a ha).1 (h.attrs hk a ha).2
theorem mark_len {es : List ElemD} (h : Good es) {k : Nat} (hk : k < es.length) : (markK es k).length ≤ 1523 := by
  have h1 := nf_len (h.tag k hk)
  have h2 := pieces_len (h.pl hk)
  have h3 := h.len k hk
  unfold markK markB
  rw [EJ_eq hk]
  simp only [List.length_append, List.length_cons]
  have h4 : (if (kidsA es k).isEmpty = true then [47, 62] else [62] : List UInt8).length ≤ 2 := by split <;> simp
  omega
theorem end_len {es : List ElemD} (h : Good es) {k : Nat} (hk : k < es.length) : (endB (EJ es k)).length ≤ 11 := by
  have h1 := nf_len (h.tag k hk)
  unfold endB
  rw [EJ_eq hk]
  simp only [List.length_append, List.length_cons, List.length_nil]
  omega
theorem mem_kids {es : List ElemD} {k c : Nat} (h : c ∈ kidsA es k) : ∃ hc : c < es.length, es[c].parent = (k : Int) := by
  unfold kidsA kidsN at h
  obtain ⟨h1, h2⟩ := List.mem_filter.1 h
  have hc : c < es.length := by simpa using h1
  refine ⟨hc, ?_⟩
  rw [List.getElem?_eq_getElem hc, Option.map_some, beq_iff_eq] at h2
  exact Option.some.inj h2
theorem kid_mem {es : List ElemD} {k c : Nat} (hc : c < es.length) (h : es[c].parent = (k : Int)) : c ∈ kidsA es k := by
  unfold kidsA kidsN
  refine List.mem_filter.2 ⟨by simpa using hc, ?_⟩
  rw [List.getElem?_eq_getElem hc, Option.map_some, beq_iff_eq, h]
theorem kid_gt {es : List ElemD} (h : Good es) {k c : Nat} (hc : c ∈ kidsA es k) : k < c ∧ c < es.length := by
  obtain ⟨h1, h2⟩ := mem_kids hc
  have := h.low c h1
  omega
/-! ### how long it gets -/
theorem nodup_len : ∀ {n : Nat} {l : List Nat}, l.Nodup → (∀ x ∈ l, x < n) → l.length ≤ n
  | 0, [], _, _ => Nat.le_refl _
  | 0, a :: r, _, h => absurd (h a (by simp)) (by omega)
  | n + 1, l, hd, h => by
    by_cases hm : n ∈ l
    · have h1 := nodup_len (n := n) (l := l.erase n) (hd.erase n) (fun x hx => by
        have h2 := (hd.mem_erase_iff).1 hx
        have := h x h2.2
        omega)
      rw [List.length_erase_of_mem hm] at h1
      omega
    · exact Nat.le_succ_of_le (nodup_len (n := n) hd (fun x hx => by
        have := h x hx
        have : x ≠ n := fun e => hm (e ▸ hx)
        omega))
theorem kids_nodup (es : List ElemD) (k : Nat) : (kidsA es k).Nodup := by
  unfold kidsA kidsN
  exact List.nodup_range.filter _
theorem kids_flat {es : List ElemD} {L : List Nat} (h : L.Nodup) : (L.flatMap (kidsA es)).Nodup := by
  unfold List.Nodup
  rw [List.pairwise_flatMap]
  refine ⟨fun a _ => kids_nodup es a, h.imp ?_⟩
  intro a b hab x hx y hy e
  subst e
  obtain ⟨h1, h2⟩ := mem_kids hx
  obtain ⟨_, h3⟩ := mem_kids hy
  rw [h2] at h3
  omega
def sumL (g : Nat → Nat) (l : List Nat) : Nat := (l.map g).sum
theorem sum_flat (g : Nat → Nat) (k : Nat → List Nat) : ∀ l : List Nat, sumL g (l.flatMap k) = sumL (fun a => sumL g (k a)) l
  | [] => rfl
  | a :: r => by
    have h := sum_flat g k r
    unfold sumL at *
    simp only [List.flatMap_cons, List.map_append, List.sum_append, List.map_cons, List.sum_cons]
    omega
theorem flat_len' (g : Nat → List UInt8) : ∀ l : List Nat, (l.flatMap g).length = sumL (fun a => (g a).length) l
  | [] => rfl
  | a :: r => by
    have h := flat_len' g r
    unfold sumL at *
    simp only [List.flatMap_cons, List.length_append, List.map_cons, List.sum_cons]
    omega
theorem sum_le {g g' : Nat → Nat} {c : Nat} : ∀ {l : List Nat}, (∀ a ∈ l, g a ≤ c + g' a) → sumL g l ≤ c * l.length + sumL g' l
  | [], _ => by simp [sumL]
  | a :: r, h => by
    have h1 := h a (by simp)
    have h2 := sum_le (l := r) (fun b hb => h b (by simp [hb]))
    unfold sumL at *
    simp only [List.map_cons, List.sum_cons, List.length_cons, Nat.mul_add]
    omega
theorem wr_sum {es : List ElemD} (h : Good es) : ∀ (f : Nat) {L : List Nat}, L.Nodup → (∀ k ∈ L, k < es.length) → sumL (fun k => (wrF es f k).length) L ≤ f * 61400
  | 0, L, _, _ => by
    have h2 : ∀ l : List Nat, sumL (fun k => (wrF es 0 k).length) l = 0 := fun l => by
      unfold sumL
      induction l with
      | nil => rfl
      | cons a r ih => simp only [List.map_cons, List.sum_cons, ih]; rfl
    rw [h2 L]
    exact Nat.zero_le _
  | f + 1, L, hd, hL => by
    have h1 : ∀ k ∈ L, (wrF es (f + 1) k).length ≤ 1535 + sumL (fun c => (wrF es f c).length) (kidsA es k) := fun k hk => by
      have m1 := mark_len h (hL k hk)
      have m2 := end_len h (hL k hk)
      rw [wrF, List.length_append]
      split
      · simp only [List.length_nil]; omega
      · rw [List.length_append, flat_len']; omega
    have h2 := sum_le (g := fun k => (wrF es (f + 1) k).length) (c := 1535) (l := L) h1
    rw [← sum_flat] at h2
    have h3 := wr_sum h f (kids_flat (es := es) hd) (fun c hc => by
      obtain ⟨k, _, hk⟩ := List.mem_flatMap.1 hc
      exact (kid_gt h hk).2)
    have h4 := nodup_len hd hL
    have h5 := h.le
    have : 1535 * L.length ≤ 61400 := by omega
    omega
theorem wr_len {es : List ElemD} (h : Good es) (f : Nat) {k : Nat} (hk : k < es.length) : (wrF es f k).length ≤ f * 61400 := by
  have h1 := wr_sum h f (L := [k]) (by simp) (fun x hx => by simp at hx; omega)
  unfold sumL at h1
  simpa using h1
theorem wr_kids_len {es : List ElemD} (h : Good es) (f : Nat) {k m : Nat} : (((kidsA es k).take m).flatMap (wrF es f)).length ≤ f * 61400 := by
  rw [flat_len']
  exact wr_sum h f ((kids_nodup es k).sublist (List.take_sublist _ _)) (fun c hc => (kid_gt h (List.mem_of_mem_take hc)).2)
/-! ### whether all marks are short -/
theorem ok_of {es : List ElemD} (h : ∀ k, k < es.length → (markK es k).length ≤ 600) : ∀ (f k : Nat), k < es.length → okF es f k = true
  | 0, _, _ => rfl
  | f + 1, k, hk => by
    rw [okF, Bool.and_eq_true, decide_eq_true_eq, List.all_eq_true]
    exact ⟨h k hk, fun c hc => ok_of h f c (mem_kids hc).1⟩
theorem of_ok {es : List ElemD} (h : Good es) (hk : okF es es.length 0 = true) : ∀ j, j < es.length → ∃ f, es.length - j ≤ f ∧ okF es f j = true := by
  intro j
  induction j using Nat.strongRecOn with
  | _ j ih =>
    intro hj
    rcases Nat.eq_zero_or_pos j with h0 | h0
    · subst h0; exact ⟨es.length, by omega, hk⟩
    · have hp := h.par j hj h0
      have hl := h.low j hj
      obtain ⟨f, hf, ho⟩ := ih es[j].parent.toNat (by omega) (by omega)
      cases f with
      | zero => omega
      | succ f =>
        rw [okF, Bool.and_eq_true, List.all_eq_true] at ho
        exact ⟨f, by omega, ho.2 j (kid_mem hj (by omega))⟩
theorem short_of {es : List ElemD} (h : Good es) (hk : okF es es.length 0 = true) : ∀ j, j < es.length → (markK es j).length ≤ 600 := fun j hj => by
  obtain ⟨f, hf, ho⟩ := of_ok h hk j hj
  cases f with
  | zero => omega
  | succ f =>
    rw [okF, Bool.and_eq_true, decide_eq_true_eq] at ho
    exact ho.1
def wcode (es : List ElemD) : Int := if fault es ≠ 0 then fault es else if okF es es.length 0 = true ∧ (wrF es es.length 0).length ≤ 1500 then 0 else 2
def wtext (es : List ElemD) : List UInt8 := if wcode es = 0 then wrF es es.length 0 else []
theorem w_fault {es : List ElemD} (h : fault es ≠ 0) : wcode es = fault es ∧ wtext es = [] := by
  have e : wcode es = fault es := by unfold wcode; rw [if_pos h]
  exact ⟨e, by unfold wtext; rw [if_neg (by rw [e]; exact h)]⟩
theorem w_many {es : List ElemD} (h : fault es = 0) (h2 : ¬ (okF es es.length 0 = true ∧ (wrF es es.length 0).length ≤ 1500)) : wcode es = 2 ∧ wtext es = [] := by
  have e : wcode es = 2 := by unfold wcode; rw [if_neg (by simp [h]), if_neg h2]
  exact ⟨e, by unfold wtext; rw [if_neg (by rw [e]; decide)]⟩
theorem w_ok {es : List ElemD} (h : fault es = 0) (h1 : okF es es.length 0 = true) (h2 : (wrF es es.length 0).length ≤ 1500) : wcode es = 0 ∧ wtext es = wrF es es.length 0 := by
  have e : wcode es = 0 := by unfold wcode; rw [if_neg (by simp [h]), if_pos ⟨h1, h2⟩]
  exact ⟨e, by unfold wtext; rw [if_pos e]⟩
end Tr
end Go.Proofs.YtgghigfflpbjiaaGreatDoor
/- ValueOf, of the specification and of the program. Condition of the second: the table of entities lies as its initialiser lays it. -/
namespace Go.Proofs.YtgghigfflpbjiaaGreatDoor
open Go.RowKit
set_option linter.unusedVariables false
namespace Tr
/-- A cell, and its mark, of a block that stood. -/
theorem kept_cell {B : Nat} {W w : World} (h : Below B W w) {b o : Nat} (hb : b < B) {v : Value} (hc : W.cell? ⟨b, o, none⟩ = some v) : w.cell? ⟨b, o, none⟩ = some v := (h.cell (p := ⟨b, o, none⟩) hb).trans hc
theorem kept_free {B : Nat} {W w : World} (h : Below B W w) {b o : Nat} (hb : b < B) (hc : W.frozen? ⟨b, o, none⟩ = false) : w.frozen? ⟨b, o, none⟩ = false := (h.frozen (p := ⟨b, o, none⟩) hb).trans hc
def valAt (es : List ElemD) (at' : Int) (nm : ByteArray) : Int := match es[at'.toNat]? with
  | some e => attrIdx e.attrs nm
  | none => -1
def valCode (es : List ElemD) (at' : Int) (nm : ByteArray) : Int := if fault es ≠ 0 then fault es else if 0 ≤ at' ∧ at' < es.length then (if valAt es at' nm < 0 then 4 else 0) else 3
def valText (es : List ElemD) (at' : Int) (nm : ByteArray) : ByteArray := if valCode es at' nm = 0 then (match es[at'.toNat]? with
  | some e => (match e.attrs[(attrIdx e.attrs nm).toNat]? with
    | some a => a.value
    | none => { data := #[] })
  | none => { data := #[] }) else { data := #[] }
theorem val_fault {es : List ElemD} {at' : Int} {nm : ByteArray} (h : fault es ≠ 0) : valCode es at' nm = fault es ∧ valText es at' nm = { data := #[] } := by
  have e : valCode es at' nm = fault es := by unfold valCode; rw [if_pos h]
  exact ⟨e, by unfold valText; rw [if_neg (by rw [e]; exact h)]⟩
theorem val_range {es : List ElemD} {at' : Int} {nm : ByteArray} (h : fault es = 0) (h2 : ¬ (0 ≤ at' ∧ at' < es.length)) : valCode es at' nm = 3 ∧ valText es at' nm = { data := #[] } := by
  have e : valCode es at' nm = 3 := by unfold valCode; rw [if_neg (by simp [h]), if_neg h2]
  exact ⟨e, by unfold valText; rw [if_neg (by rw [e]; decide)]⟩
theorem val_none {es : List ElemD} {k : Nat} {nm : ByteArray} (h : fault es = 0) (hk : k < es.length) (h3 : attrIdx es[k].attrs nm < 0) : valCode es k nm = 4 ∧ valText es k nm = { data := #[] } := by
  have e1 : valAt es k nm = attrIdx es[k].attrs nm := by unfold valAt; rw [Int.toNat_natCast, List.getElem?_eq_getElem hk]
  have e : valCode es k nm = 4 := by unfold valCode; rw [if_neg (by simp [h]), if_pos (by omega), if_pos (by rw [e1]; exact h3)]
  exact ⟨e, by unfold valText; rw [if_neg (by rw [e]; decide)]⟩
theorem val_ok {es : List ElemD} {k j : Nat} {nm : ByteArray} (h : fault es = 0) (hk : k < es.length) (h3 : attrIdx es[k].attrs nm = j) (hj : j < es[k].attrs.length) : valCode es k nm = 0 ∧ valText es k nm = es[k].attrs[j].value := by
  have e1 : valAt es k nm = attrIdx es[k].attrs nm := by unfold valAt; rw [Int.toNat_natCast, List.getElem?_eq_getElem hk]
  have e : valCode es k nm = 0 := by unfold valCode; rw [if_neg (by simp [h]), if_pos (by omega), if_neg (by rw [e1, h3]; omega)]
  refine ⟨e, ?_⟩
  unfold valText
  rw [if_pos e, Int.toNat_natCast, List.getElem?_eq_getElem hk]
  simp only [h3, Int.toNat_natCast, List.getElem?_eq_getElem hj]
theorem idx_lt {l : List AttrD} {nm : ByteArray} {j : Nat} (h : attrIdx l nm = j) : j < l.length := by
  unfold attrIdx at h
  cases hf : l.findIdx? (fun a => a.name.toList == nm.toList) with
  | none => rw [hf] at h; simp only at h; omega
  | some i =>
    rw [hf] at h
    obtain ⟨hi, _⟩ := List.findIdx?_eq_some_iff_getElem.1 hf
    simp only at h
    omega
theorem ret_agg {c d : Int} {s t : ByteArray} (h : c = d) (h2 : s = t) : Ending.returned (.agg #[.int .i64 c, .string s]) = .returned (.agg #[.int .i64 d, .string t]) := by rw [h, h2]
end Tr
end Go.Proofs.YtgghigfflpbjiaaGreatDoor
/- The law's own helpers over lists of numbers: whether two are the same, marks written into one, and whether it still holds them. -/
namespace Go.Proofs.YtgghigfflpbjiaaGreatDoor
open Go.RowKit
set_option linter.unusedVariables false
namespace Ints
open Ex (hid)
def vals (xs : List Int) : List Value := xs.map fun x => .int .i64 x
/-- A slice of numbers that lies in memory. -/
def IntsAt (w : World) (v : Value) (xs : List Int) : Prop :=
  (v = .slice none 0 0 ∧ xs = []) ∨ ∃ g cap, v = .slice (some ⟨g, 0, none⟩) xs.length cap ∧ g < w.heap.size ∧ ∀ i x, xs[i]? = some x → w.cell? ⟨g, i, none⟩ = some (.int .i64 x)
theorem IntsAt.slice {w : World} {v : Value} {xs : List Int} (h : IntsAt w v xs) : ∃ a cap, v = .slice a xs.length cap := by
  rcases h with ⟨rfl, rfl⟩ | ⟨g, cap, rfl, _⟩
  · exact ⟨none, 0, rfl⟩
  · exact ⟨_, _, rfl⟩
theorem IntsAt.at {w : World} {a : Option Addr} {n cap : Nat} {xs : List Int} (h : IntsAt w (.slice a n cap) xs) {i : Nat} (hi : i < xs.length) : ∃ g, a = some ⟨g, 0, none⟩ ∧ g < w.heap.size ∧ w.cell? ⟨g, i, none⟩ = some (.int .i64 xs[i]) := by
  rcases h with ⟨_, rfl⟩ | ⟨g, cap, e, hg, hc⟩
  · simp at hi
  · cases e
    exact ⟨g, rfl, hg, hc i _ (List.getElem?_eq_getElem hi)⟩
theorem IntsAt.kept {w w' : World} {v : Value} {xs : List Int} (h : IntsAt w v xs) (hs : w.heap.size ≤ w'.heap.size) (hb : ∀ b, v.ownBlock = some b → b < w.heap.size → w'.heap[b]? = w.heap[b]?) : IntsAt w' v xs := by
  rcases h with h | ⟨g, cap, rfl, hg, hc⟩
  · exact .inl h
  · exact .inr ⟨g, cap, rfl, Nat.lt_of_lt_of_le hg hs, fun i x hx => by simp only [World.cell?, hb g rfl hg]; exact hc i x hx⟩
theorem IntsAt.below {w w' : World} {v : Value} {xs : List Int} (h : IntsAt w v xs) (hb : Below w.heap.size w w') : IntsAt w' v xs := h.kept hb.size (fun b _ h => hb.block b h)
theorem IntsAt.of {w : World} {base : Nat} {v : Value} {xs : List Int} (h : w.ownsRow base 2 1 v xs.length (vals xs)) : IntsAt w v xs := by
  obtain ⟨hl, ⟨rfl, h0⟩ | ⟨g, cap, cur, rfl, hbg, hg, hle, hm, hs, ht⟩⟩ := h
  · exact .inl ⟨rfl, List.length_eq_zero_iff.1 h0⟩
  · refine .inr ⟨g, cap, rfl, (Array.getElem?_eq_some_iff.1 hg).1, fun i t hti => ?_⟩
    have hi : i < xs.length := (List.getElem?_eq_some_iff.1 hti).1
    have : cur[i]? = some (.int .i64 t) := by
      have h2 := congrArg (·[i]?) ht
      simp only [vals, Nat.mul_one, List.getElem?_take, List.getElem?_map, hti, Option.map_some, hi, if_true] at h2
      simpa using h2
    simp [World.cell?, hg, this]
theorem below_drewN {B : Nat} {a w : World} (h : Below B a w) (n : Nat) : Below B a (w.drewN n) := ⟨h.os, h.tape, h.output, h.size, h.block⟩
def marksTo (n : Nat) : List Int := (List.range n).map fun (i : Nat) => (i : Int) + 1
theorem marksTo_len (n : Nat) : (marksTo n).length = n := by simp [marksTo]
theorem marksTo_succ (n : Nat) : marksTo (n + 1) = marksTo n ++ [(n : Int) + 1] := by simp [marksTo, List.range_succ]
theorem marksTo_get {n i : Nat} (h : i < n) : (marksTo n)[i]? = some ((i : Int) + 1) := by simp [marksTo, h]
def half (xs : List Int) (i : Nat) : List Int := marksTo i ++ xs.drop i
theorem half_set {xs : List Int} {i : Nat} (h : i < xs.length) : (half xs i).set i ((i : Int) + 1) = half xs (i + 1) := by
  unfold half
  rw [marksTo_succ, List.drop_eq_getElem_cons h, List.set_append_right _ _ (Nat.le_of_eq (marksTo_len i)), marksTo_len, Nat.sub_self, List.set_cons_zero, List.append_assoc]
  rfl
theorem owns_cell {w : World} {base g n cap i : Nat} {e : TypeId} {xs : List Value} (h : w.ownsRow base e 1 (.slice (some ⟨g, 0, none⟩) n cap) n xs) (hi : i < n) :
    (∃ u, w.cell? ⟨g, i, none⟩ = some u) ∧ w.frozen? ⟨g, i, none⟩ = false ∧ base ≤ g ∧ g < w.heap.size := by
  obtain ⟨hl, ⟨h0, _⟩ | ⟨g', cap', cur, hv, hbg, hg, hle, hm, hs, ht⟩⟩ := h
  · cases h0
  · cases hv
    have hlt : i < cur.size := by omega
    exact ⟨⟨cur[i], by simp [World.cell?, hg, hlt]⟩, by simp [World.frozen?, hg], hbg, (Array.getElem?_eq_some_iff.1 hg).1⟩
theorem owns_some {w : World} {base n : Nat} {e : TypeId} {v : Value} {xs : List Value} (h : w.ownsRow base e 1 v n xs) (hn : 0 < n) : ∃ g cap, v = .slice (some ⟨g, 0, none⟩) n cap := by
  obtain ⟨hl, ⟨_, h0⟩ | ⟨g', cap', cur, hv, _⟩⟩ := h
  · omega
  · exact ⟨_, _, hv⟩
theorem owns_slice {w : World} {base n : Nat} {e : TypeId} {v : Value} {xs : List Value} (h : w.ownsRow base e 1 v n xs) : ∃ a cap, v = .slice a n cap := by
  obtain ⟨hl, ⟨rfl, rfl⟩ | ⟨g', cap', cur, hv, _⟩⟩ := h
  · exact ⟨_, _, rfl⟩
  · exact ⟨_, _, hv⟩
theorem owns_below {w w' : World} {base : Nat} {e : TypeId} {size n : Nat} {v : Value} {xs : List Value} (h : w.ownsRow base e size v n xs) (hb : Below w.heap.size w w') : w'.ownsRow base e size v n xs :=
  h.kept (row := none) ⟨hb.os, hb.tape, hb.output, hb.size, fun k hk _ => hb.block k hk⟩ (by cases v.ownBlock <;> simp)
theorem grown_refl (w : World) (row : Option Nat) : w.grownBy w row := ⟨rfl, rfl, rfl, Nat.le_refl _, fun _ _ _ => rfl⟩
theorem grown_after {w w1 w2 : World} {row : Option Nat} (h : w.grownBy w1 row) (h2 : w1.grownBy w2 row) : w.grownBy w2 row :=
  ⟨h2.os.trans h.os, h2.tape.trans h.tape, h2.output.trans h.output, Nat.le_trans h.size h2.size, fun k hk hr => (h2.block k (Nat.lt_of_lt_of_le hk h.size) hr).trans (h.block k hk hr)⟩
theorem grown_set {w w1 : World} {g : Nat} (h : w.grownBy w1 (some g)) (i : Nat) (u : Value) : w.grownBy (w1.setCell ⟨g, i, none⟩ u) (some g) :=
  grown_after h ⟨rfl, rfl, rfl, by simp [World.setCell], fun k hk hr => Below.heap_setCell _ _ _ _ (fun e => hr (by rw [e]))⟩
end Ints
end Go.Proofs.YtgghigfflpbjiaaGreatDoor
