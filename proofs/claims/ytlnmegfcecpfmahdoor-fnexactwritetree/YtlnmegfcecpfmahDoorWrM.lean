/- Plain facts about what is written of a tree, of no program. -/
import Derived.Test.YtlnmegfcecpfmahDoorTrX
namespace Go.Proofs.YtlnmegfcecpfmahDoor
set_option linter.unusedVariables false
namespace Tr
open Esc (esc escAll escAll_len)
def piece (a : AttrD) : List UInt8 := 32 :: a.name.data.toList ++ [61, 34] ++ escAll a.value.data.toList ++ [34]
def pieces (l : List AttrD) : List UInt8 := l.flatMap piece
def markB (e : ElemD) (closed : Bool) : List UInt8 := 60 :: e.tag.data.toList ++ pieces e.attrs ++ (if closed then [47, 62] else [62])
def endB (e : ElemD) : List UInt8 := [60, 47] ++ e.tag.data.toList ++ [62]
def EJ (es : List ElemD) (k : Nat) : ElemD := es[k]?.getD ⟨ByteArray.empty, 0, []⟩
theorem EJ_eq {es : List ElemD} {k : Nat} (h : k < es.length) : EJ es k = es[k] := by unfold EJ; rw [List.getElem?_eq_getElem h]; rfl
def kidsA (es : List ElemD) (k : Nat) : List Nat := kidsN es es.length k
def markK (es : List ElemD) (k : Nat) : List UInt8 := markB (EJ es k) (kidsA es k).isEmpty
def wrF (es : List ElemD) : Nat → Nat → List UInt8
  | 0, _ => []
  | f + 1, k => markK es k ++ (if (kidsA es k).isEmpty then [] else (kidsA es k).flatMap (wrF es f) ++ endB (EJ es k))
def okF (es : List ElemD) : Nat → Nat → Bool
  | 0, _ => true
  | f + 1, k => decide ((markK es k).length ≤ 600) && (kidsA es k).all (okF es f)
/-- What is known of a tree with nothing wrong. -/
structure Good (es : List ElemD) : Prop where
  pos : 0 < es.length
  le : es.length ≤ 40
  low : ∀ j (h : j < es.length), es[j].parent < j
  par : ∀ j (h : j < es.length), 0 < j → 0 ≤ es[j].parent
  tag : ∀ j (h : j < es.length), nf es[j].tag.data.toList = 0
  len : ∀ j (h : j < es.length), es[j].attrs.length ≤ 6
  att : ∀ j (h : j < es.length), acode es[j].attrs = 0
theorem good_of {es : List ElemD} (h : fault es = 0) : Good es := by
  have hz : ¬ es.length < 1 ∧ ¬ 40 < es.length := by
    by_cases e : es.length < 1 ∨ 40 < es.length
    · rw [fault_many e] at h; omega
    · omega
  have all : ∀ i, i ≤ es.length → ∃ S, Seen es i S ∧ ∀ j (hj : j < es.length), j < i → es[j].parent < j ∧ (0 < j → 0 ≤ es[j].parent) ∧ nf es[j].tag.data.toList = 0 ∧ es[j].attrs.length ≤ 6 ∧ acode es[j].attrs = 0 := by
    intro i
    induction i with
    | zero => exact fun _ => ⟨[], Seen.start hz.1 hz.2, fun j _ hj => by omega⟩
    | succ i ih =>
      intro hi
      obtain ⟨S, hs, ho⟩ := ih (by omega)
      have hlt : i < es.length := by omega
      by_cases hn : nf es[i].tag.data.toList = 0
      · by_cases hp : (i = 0 ∧ es[i].parent ≠ -1) ∨ (0 < i ∧ ¬ (0 ≤ es[i].parent ∧ es[i].parent < i))
        · rw [hs.range hlt hn hp] at h; omega
        · by_cases hf : 0 < i ∧ onPath es[i].parent S = false
          · rw [hs.form hlt hn hp hf] at h; omega
          · by_cases hm : 8 < (cutTo es[i].parent S).length + 1 ∨ 6 < es[i].attrs.length
            · rw [hs.many hlt hn hp hf hm] at h; omega
            · by_cases ha : acode es[i].attrs = 0
              · refine ⟨_, hs.next hlt hn hp hf hm ha, fun j hj hji => ?_⟩
                by_cases e : j = i
                · subst e
                  refine ⟨low_of hj hp, fun h0 => ?_, hn, by omega, ha⟩
                  have : ¬ ¬ (0 ≤ es[j].parent ∧ es[j].parent < j) := fun e => hp (.inr ⟨h0, e⟩)
                  omega
                · exact ho j hj (by omega)
              · rw [hs.attr hlt hn hp hf hm ha] at h; exact absurd h ha
      · rw [hs.name hlt hn] at h; exact absurd h hn
  obtain ⟨S, _, ho⟩ := all es.length (Nat.le_refl _)
  exact ⟨by omega, by omega, fun j hj => (ho j hj hj).1, fun j hj => (ho j hj hj).2.1, fun j hj => (ho j hj hj).2.2.1, fun j hj => (ho j hj hj).2.2.2.1, fun j hj => (ho j hj hj).2.2.2.2⟩
theorem acode_all : ∀ {l pre : List AttrD}, acodeFrom pre l = 0 → ∀ a ∈ l, nf a.name.data.toList = 0 ∧ vcode a.value.data.toList = 0
  | [], _, _, a, ha => by cases ha
  | b :: r, pre, h, a, ha => by
    rw [acodeFrom] at h
    by_cases h1 : nf b.name.data.toList = 0
    · rw [if_neg (by simp [h1])] at h
      by_cases h2 : hasName pre b.name = true
      · rw [if_pos h2] at h; omega
      · rw [if_neg h2] at h
        by_cases h3 : vcode b.value.data.toList = 0
        · rw [if_neg (by simp [h3])] at h
          rcases List.mem_cons.1 ha with rfl | ha
          · exact ⟨h1, h3⟩
          · exact acode_all h a ha
        · rw [if_pos h3] at h; exact absurd h h3
    · rw [if_pos h1] at h; exact absurd h h1
theorem nf_len {l : List UInt8} (h : nf l = 0) : l.length ≤ 8 := by
  unfold nf at h
  by_cases e1 : azAll l = false
  · rw [if_pos e1] at h; omega
  · rw [if_neg e1] at h
    by_cases e2 : l.length = 0
    · omega
    · rw [if_neg e2] at h
      by_cases e3 : 8 < l.length
      · rw [if_pos e3] at h; omega
      · omega
theorem v_len {l : List UInt8} (h : vcode l = 0) : l.length ≤ 40 := by
  unfold vcode at h
  by_cases e1 : 40 < l.length
  · rw [if_pos e1] at h; omega
  · omega
theorem piece_len {a : AttrD} (h1 : nf a.name.data.toList = 0) (h2 : vcode a.value.data.toList = 0) : (piece a).length ≤ 252 := by
  have h3 := nf_len h1
  have h4 := v_len h2
  have h5 := escAll_len a.value.data.toList
  simp only [piece, List.length_append, List.length_cons, List.length_nil]
  omega
theorem pieces_len : ∀ {l : List AttrD}, (∀ a ∈ l, (piece a).length ≤ 252) → (pieces l).length ≤ 252 * l.length
  | [], _ => by simp [pieces]
  | a :: r, h => by
    have h1 := h a (by simp)
    have h2 := pieces_len (l := r) (fun b hb => h b (by simp [hb]))
    unfold pieces at *
    simp only [List.flatMap_cons, List.length_append, List.length_cons]
    omega
theorem Good.attrs {es : List ElemD} (h : Good es) {k : Nat} (hk : k < es.length) : ∀ a ∈ es[k].attrs, nf a.name.data.toList = 0 ∧ vcode a.value.data.toList = 0 := acode_all (pre := []) (h.att k hk)
theorem Good.pl {es : List ElemD} (h : Good es) {k : Nat} (hk : k < es.length) : ∀ a ∈ es[k].attrs, (piece a).length ≤ 252 := fun a ha => piece_len (h.attrs hk a ha).1 (h.attrs hk a ha).2
theorem mark_len {es : List ElemD} (h : Good es) {k : Nat} (hk : k < es.length) : (markK es k).length ≤ 1523 := by
  have h1 := nf_len (h.tag k hk)
  have h2 := pieces_len (h.pl hk)
  have h3 := h.len k hk
  unfold markK markB
  rw [EJ_eq hk]
  simp only [List.length_append, List.length_cons]
  have h4 : (if (kidsA es k).isEmpty = true then [47, 62] else [62] : List UInt8).length ≤ 2 := by split <;> simp
  omega
theorem end_len {es : List ElemD} (h : Good es) {k : Nat} (hk : k < es.length) : (endB (EJ es k)).length ≤ 11 := by
  have h1 := nf_len (h.tag k hk)
  unfold endB
  rw [EJ_eq hk]
  simp only [List.length_append, List.length_cons, List.length_nil]
  omega
theorem mem_kids {es : List ElemD} {k c : Nat} (h : c ∈ kidsA es k) : ∃ hc : c < es.length, es[c].parent = (k : Int) := by
  unfold kidsA kidsN at h
  obtain ⟨h1, h2⟩ := List.mem_filter.1 h
  have hc : c < es.length := by simpa using h1
  refine ⟨hc, ?_⟩
  rw [List.getElem?_eq_getElem hc, Option.map_some, beq_iff_eq] at h2
  exact Option.some.inj h2
theorem kid_mem {es : List ElemD} {k c : Nat} (hc : c < es.length) (h : es[c].parent = (k : Int)) : c ∈ kidsA es k := by
  unfold kidsA kidsN
  refine List.mem_filter.2 ⟨by simpa using hc, ?_⟩
  rw [List.getElem?_eq_getElem hc, Option.map_some, beq_iff_eq, h]
theorem kid_gt {es : List ElemD} (h : Good es) {k c : Nat} (hc : c ∈ kidsA es k) : k < c ∧ c < es.length := by
  obtain ⟨h1, h2⟩ := mem_kids hc
  have := h.low c h1
  omega
/-! ### how long it gets -/
theorem nodup_len : ∀ {n : Nat} {l : List Nat}, l.Nodup → (∀ x ∈ l, x < n) → l.length ≤ n
  | 0, [], _, _ => Nat.le_refl _
  | 0, a :: r, _, h => absurd (h a (by simp)) (by omega)
  | n + 1, l, hd, h => by
    by_cases hm : n ∈ l
    · have h1 := nodup_len (n := n) (l := l.erase n) (hd.erase n) (fun x hx => by
        have h2 := (hd.mem_erase_iff).1 hx
        have := h x h2.2
        omega)
      rw [List.length_erase_of_mem hm] at h1
      omega
    · exact Nat.le_succ_of_le (nodup_len (n := n) hd (fun x hx => by
        have := h x hx
        have : x ≠ n := fun e => hm (e ▸ hx)
        omega))
theorem kids_nodup (es : List ElemD) (k : Nat) : (kidsA es k).Nodup := by
  unfold kidsA kidsN
  exact List.nodup_range.filter _
theorem kids_flat {es : List ElemD} {L : List Nat} (h : L.Nodup) : (L.flatMap (kidsA es)).Nodup := by
  unfold List.Nodup
  rw [List.pairwise_flatMap]
  refine ⟨fun a _ => kids_nodup es a, h.imp ?_⟩
  intro a b hab x hx y hy e
  subst e
  obtain ⟨h1, h2⟩ := mem_kids hx
  obtain ⟨_, h3⟩ := mem_kids hy
  rw [h2] at h3
  omega
def sumL (g : Nat → Nat) (l : List Nat) : Nat := (l.map g).sum
theorem sum_flat (g : Nat → Nat) (k : Nat → List Nat) : ∀ l : List Nat, sumL g (l.flatMap k) = sumL (fun a => sumL g (k a)) l
  | [] => rfl
  | a :: r => by
    have h := sum_flat g k r
    unfold sumL at *
    simp only [List.flatMap_cons, List.map_append, List.sum_append, List.map_cons, List.sum_cons]
    omega
theorem flat_len' (g : Nat → List UInt8) : ∀ l : List Nat, (l.flatMap g).length = sumL (fun a => (g a).length) l
  | [] => rfl
  | a :: r => by
    have h := flat_len' g r
    unfold sumL at *
    simp only [List.flatMap_cons, List.length_append, List.map_cons, List.sum_cons]
    omega
theorem sum_le {g g' : Nat → Nat} {c : Nat} : ∀ {l : List Nat}, (∀ a ∈ l, g a ≤ c + g' a) → sumL g l ≤ c * l.length + sumL g' l
  | [], _ => by simp [sumL]
  | a :: r, h => by
    have h1 := h a (by simp)
    have h2 := sum_le (l := r) (fun b hb => h b (by simp [hb]))
    unfold sumL at *
    simp only [List.map_cons, List.sum_cons, List.length_cons, Nat.mul_add]
    omega
theorem wr_sum {es : List ElemD} (h : Good es) : ∀ (f : Nat) {L : List Nat}, L.Nodup → (∀ k ∈ L, k < es.length) → sumL (fun k => (wrF es f k).length) L ≤ f * 61400
  | 0, L, _, _ => by
    have h2 : ∀ l : List Nat, sumL (fun k => (wrF es 0 k).length) l = 0 := fun l => by
      unfold sumL
      induction l with
      | nil => rfl
      | cons a r ih => simp only [List.map_cons, List.sum_cons, ih]; rfl
    rw [h2 L]
    exact Nat.zero_le _
  | f + 1, L, hd, hL => by
    have h1 : ∀ k ∈ L, (wrF es (f + 1) k).length ≤ 1535 + sumL (fun c => (wrF es f c).length) (kidsA es k) := fun k hk => by
      have m1 := mark_len h (hL k hk)
      have m2 := end_len h (hL k hk)
      rw [wrF, List.length_append]
      split
      · simp only [List.length_nil]; omega
      · rw [List.length_append, flat_len']; omega
    have h2 := sum_le (g := fun k => (wrF es (f + 1) k).length) (c := 1535) (l := L) h1
    rw [← sum_flat] at h2
    have h3 := wr_sum h f (kids_flat (es := es) hd) (fun c hc => by
      obtain ⟨k, _, hk⟩ := List.mem_flatMap.1 hc
      exact (kid_gt h hk).2)
    have h4 := nodup_len hd hL
    have h5 := h.le
    have : 1535 * L.length ≤ 61400 := by omega
    omega
theorem wr_len {es : List ElemD} (h : Good es) (f : Nat) {k : Nat} (hk : k < es.length) : (wrF es f k).length ≤ f * 61400 := by
  have h1 := wr_sum h f (L := [k]) (by simp) (fun x hx => by simp at hx; omega)
  unfold sumL at h1
  simpa using h1
theorem wr_kids_len {es : List ElemD} (h : Good es) (f : Nat) {k m : Nat} : (((kidsA es k).take m).flatMap (wrF es f)).length ≤ f * 61400 := by
  rw [flat_len']
  exact wr_sum h f ((kids_nodup es k).sublist (List.take_sublist _ _)) (fun c hc => (kid_gt h (List.mem_of_mem_take hc)).2)
/-! ### whether all marks are short -/
theorem ok_of {es : List ElemD} (h : ∀ k, k < es.length → (markK es k).length ≤ 600) : ∀ (f k : Nat), k < es.length → okF es f k = true
  | 0, _, _ => rfl
  | f + 1, k, hk => by
    rw [okF, Bool.and_eq_true, decide_eq_true_eq, List.all_eq_true]
    exact ⟨h k hk, fun c hc => ok_of h f c (mem_kids hc).1⟩
theorem of_ok {es : List ElemD} (h : Good es) (hk : okF es es.length 0 = true) : ∀ j, j < es.length → ∃ f, es.length - j ≤ f ∧ okF es f j = true := by
  intro j
  induction j using Nat.strongRecOn with
  | _ j ih =>
    intro hj
    rcases Nat.eq_zero_or_pos j with h0 | h0
    · subst h0; exact ⟨es.length, by omega, hk⟩
    · have hp := h.par j hj h0
      have hl := h.low j hj
      obtain ⟨f, hf, ho⟩ := ih es[j].parent.toNat (by omega) (by omega)
      cases f with
      | zero => omega
      | succ f =>
        rw [okF, Bool.and_eq_true, List.all_eq_true] at ho
        exact ⟨f, by omega, ho.2 j (kid_mem hj (by omega))⟩
theorem short_of {es : List ElemD} (h : Good es) (hk : okF es es.length 0 = true) : ∀ j, j < es.length → (markK es j).length ≤ 600 := fun j hj => by
  obtain ⟨f, hf, ho⟩ := of_ok h hk j hj
  cases f with
  | zero => omega
  | succ f =>
    rw [okF, Bool.and_eq_true, decide_eq_true_eq] at ho
    exact ho.1
def wcode (es : List ElemD) : Int := if fault es ≠ 0 then fault es else if okF es es.length 0 = true ∧ (wrF es es.length 0).length ≤ 1500 then 0 else 2
def wtext (es : List ElemD) : List UInt8 := if wcode es = 0 then wrF es es.length 0 else []
theorem w_fault {es : List ElemD} (h : fault es ≠ 0) : wcode es = fault es ∧ wtext es = [] := by
  have e : wcode es = fault es := by unfold wcode; rw [if_pos h]
  exact ⟨e, by unfold wtext; rw [if_neg (by rw [e]; exact h)]⟩
theorem w_many {es : List ElemD} (h : fault es = 0) (h2 : ¬ (okF es es.length 0 = true ∧ (wrF es es.length 0).length ≤ 1500)) : wcode es = 2 ∧ wtext es = [] := by
  have e : wcode es = 2 := by unfold wcode; rw [if_neg (by simp [h]), if_neg h2]
  exact ⟨e, by unfold wtext; rw [if_neg (by rw [e]; decide)]⟩
theorem w_ok {es : List ElemD} (h : fault es = 0) (h1 : okF es es.length 0 = true) (h2 : (wrF es es.length 0).length ≤ 1500) : wcode es = 0 ∧ wtext es = wrF es es.length 0 := by
  have e : wcode es = 0 := by unfold wcode; rw [if_neg (by simp [h]), if_pos ⟨h1, h2⟩]
  exact ⟨e, by unfold wtext; rw [if_pos e]⟩
end Tr
end Go.Proofs.YtlnmegfcecpfmahDoor
