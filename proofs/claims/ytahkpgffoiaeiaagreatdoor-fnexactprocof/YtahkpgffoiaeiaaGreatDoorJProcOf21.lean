/- Laid together: TrI, TrX, TrY. -/
import Derived.Test.YtahkpgffoiaeiaaGreatDoorJProcOf14
import Derived.Deep.RegionWith
import Derived.Test.YtahkpgffoiaeiaaGreatDoorJProcOf46
/- What is wrong with attrs, as the program tells it. Condition: the table of entities lies as its initialiser lays it. -/
namespace Go.Proofs.YtahkpgffoiaeiaaGreatDoor
open Go.RowKit
set_option linter.unusedVariables false
namespace Tr
set_option maxRecDepth 100000 in
set_option maxHeartbeats 1000000 in
theorem implPlace (B : Nat) (l : List AttrD) (v : Value) (nm : ByteArray) (w : World) (hl : l.length ≤ 1048576) (ha : AttrsAt w B v l) :
    Calls Tryz.prog 86 #[v, .string nm] w fun e w' => e = .returned (.int .i64 (attrIdx l nm)) ∧ Below w.heap.size w w' := by
  obtain ⟨a, cap, rfl⟩ := ha.slice
  have HA := hid ha
  clear ha
  go_enter Tryz.func86, Tryz.ntmps86
  go_wp2
  go_loopw [5, 6, 9] (fun _ _ i wr => ∃ k : Nat, k ≤ l.length ∧ i = .int .i64 k ∧ Hid (∀ j (h : j < l.length), j < k → (l[j].name.toList == nm.toList) = false) ∧ Below w.heap.size w wr) (fun _ _ i _ => l.length - (intOf i).toNat)
  case atStart => exact ⟨0, Nat.zero_le _, rfl, fun j _ h => by omega, Below.refl _ _⟩
  case round =>
    obtain ⟨k, hk, rfl, HJ, hbel⟩ := hrel
    by_cases hlt : k < l.length
    · obtain ⟨g, o, rfl, hg, c0, c1⟩ := (HA.out.below hbel).at hlt
      have q1 : (k : Int) < (l.length : Int) := by omega
      cases hE : (l[k].name.toList == nm.toList)
      · have HJ2 : Hid (∀ j (h : j < l.length), j < k + 1 → (l[j].name.toList == nm.toList) = false) := hid (fun j h hj => by
          by_cases e : j = k
          · subst e; exact hE
          · exact HJ.out j h (by omega))
        go_wp2
        exact ⟨⟨k + 1, by omega, by simp, HJ2, hbel.alloc hbel.size _⟩, by simp [intOf]; omega⟩
      · have HV : Hid (attrIdx l nm = k) := idx_found hlt hE HJ.out
        go_wp2
        go_ret
        exact ⟨by rw [HV.out]; rfl, hbel.alloc hbel.size _⟩
    · have HV : Hid (attrIdx l nm = -1) := idx_none (fun j hj => HJ.out j hj (by omega))
      go_wp2
      go_ret
      exact ⟨by rw [HV.out]; rfl, hbel⟩
theorem fld0 (c : Int) (t : ByteArray) (w : World) : Sem.run Tryz.prog (Instr.field 182 (.agg #[.int .i64 c, .string t]) 0) w = .ok (.int .i64 c) w := by kernel_rfl
theorem escVal_code (l : List UInt8) : ∃ t, Esc.escVal l = .agg #[.int .i64 (Esc.vcode l), .string t] := ⟨_, rfl⟩
def acodeI (l : List AttrD) : Int := if 6 < l.length then 2 else acode l
set_option maxRecDepth 100000 in
set_option maxHeartbeats 4000000 in
theorem implAttrsFault (B : Nat) (l : List AttrD) (v : Value) (w : World) (hk : OkA l) (hl : l.length ≤ 1048576) (ha : AttrsAt w B v l) (he : Esc.Ent w) (hw : 2 < w.heap.size) :
    Calls Tryz.prog 83 #[v] w fun e w' => e = .returned (.int .i64 (acodeI l)) ∧ Below w.heap.size w w' := by
  obtain ⟨a, cap, rfl⟩ := ha.slice
  have HA := hid ha
  have HK := hid hk
  have HE := hid he
  clear ha hk he
  by_cases h6 : 6 < l.length
  · have HV : Hid (acodeI l = 2) := hid (if_pos h6)
    have q : (6 : Int) < (l.length : Int) := by omega
    clear h6
    go_enter Tryz.func83, Tryz.ntmps83
    go_wp2
    go_ret
    exact ⟨by rw [HV.out]; rfl, Below.refl _ _⟩
  have HW : Hid (acodeI l = acode l) := hid (if_neg h6)
  have q : ¬ (6 : Int) < (l.length : Int) := by omega
  go_enter Tryz.func83, Tryz.ntmps83
  go_wp2
  go_loopw [3, 4, 5, 6, 12] (fun _ _ _ _ i wr => ∃ k : Nat, i = .int .i64 k ∧ Hid (SeenA l k) ∧ k ≤ l.length ∧ Hid (Below w.heap.size w wr)) (fun _ _ _ _ i _ => l.length - (intOf i).toNat)
  case atStart => exact ⟨0, rfl, SeenA.start l, Nat.zero_le _, Below.refl _ _⟩
  case round =>
    obtain ⟨k, rfl, HS, hkl, HB⟩ := hrel
    by_cases hlt : k < l.length
    · have hA := HA.out.below HB.out
      obtain ⟨g, o, rfl, hg, c0, c1⟩ := hA.at hlt
      have hcap := hA.cap.1
      have hcap2 := hA.cap.2
      unfold maxLen at hcap2
      have hB0 : Below wr.heap.size wr (wr.alloc (.cells #[.string l[k].name, .string l[k].value] 73)) := (Below.refl _ wr).alloc (Nat.le_refl _) _
      have HT := hid (fun w' (hb : Below wr.heap.size wr w') => implPlace B (l.take k) (.slice (some ⟨g, o, none⟩) k cap) l[k].name w' (by rw [List.length_take]; omega) ((hA.take hkl).below hb))
      have hZ := HB.out.size
      have HEW := hid (Esc.Ent.below HE.out HB.out hw)
      clear hA
      have q1 : (k : Int) < (l.length : Int) := by omega
      have hkk := HK.out l[k] (List.getElem_mem hlt)
      have h1 := hkk.1
      have h2 := hkk.2
      clear hkk
      have HN := hid (fun w' => impl_nf l[k].name w' h1)
      have HX := hid (fun w' (hb : Below wr.heap.size wr w') => Esc.implEsc l[k].value w' h2 (Esc.Ent.below HEW.out hb (by omega)) (by have := hb.size; omega))
      by_cases hn : nf l[k].name.data.toList = 0
      · have b1 : (nf l[k].name.data.toList != 0) = false := by simp [hn]
        have hix := idx_has (l.take k) l[k].name
        have hlo := idx_lo (l.take k) l[k].name
        generalize attrIdx (l.take k) l[k].name = ix at *
        by_cases hx : 0 ≤ ix
        · have HV : Hid (acode l = 6) := hid (HS.out.taken hlt hn (by rw [hix]; simpa using hx))
          have b2 : (ix != -1) = true := bne_iff_ne.2 (by omega)
          clear hn hix
          go_wp2_with (go_at_call 81; refine (HN.out _).mono ?_; rintro e w' ⟨rfl, rfl⟩)
          go_region_with ((go_at_call 86; refine (HT.out _ ?_).mono ?_; exact hB0.drew; rintro e w1 ⟨rfl, hb1⟩; have hbb : Below wr.heap.size wr w1 := (hB0.drew).trans (hb1.mono (by simp))))
          all_goals go_wp2
          all_goals go_ret
          all_goals exact ⟨by rw [HW.out, HV.out]; rfl, HB.out.trans (hbb.mono hZ)⟩
        · have b2 : (ix != -1) = false := by
            have : ix = -1 := by omega
            simp [this]
          by_cases hv : vcode l[k].value.data.toList = 0
          · have HV : Hid (SeenA l (k + 1)) := hid (HS.out.next hlt hn (by rw [hix]; simpa using hx) hv)
            have b3 : (Esc.vcode l[k].value.data.toList != 0) = false := by rw [← vcode_same]; simp [hv]
            clear hn hix hv
            go_wp2_with (go_at_call 81; refine (HN.out _).mono ?_; rintro e w' ⟨rfl, rfl⟩)
            go_region_with ((go_at_call 86; refine (HT.out _ ?_).mono ?_; exact hB0.drew; rintro e w1 ⟨rfl, hb1⟩; have hbb : Below wr.heap.size wr w1 := (hB0.drew).trans (hb1.mono (by simp)); have d1 : w1.cell? ⟨wr.heap.size, 1, none⟩ = some (.string l[k].value) := (hb1.cell (p := ⟨wr.heap.size, 1, none⟩) (by simp)).trans (by simp)))
            all_goals go_wp2_with (go_at_call 101; refine (HX.out _ hbb).mono ?_; rintro e w2 ⟨rfl, hb2⟩; obtain ⟨tx, htx⟩ := escVal_code l[k].value.data.toList; rw [htx]; have hfl := fld0 (Esc.vcode l[k].value.data.toList) tx)
            all_goals exact ⟨⟨k + 1, by simp, HV, by omega, hid (HB.out.trans ((hbb.trans (hb2.mono hbb.size)).mono hZ))⟩, by simp [intOf]; omega⟩
          · have HV : Hid (acode l = Esc.vcode l[k].value.data.toList) := hid (HS.out.value hlt hn (by rw [hix]; simpa using hx) hv)
            have b3 : (Esc.vcode l[k].value.data.toList != 0) = true := by rw [← vcode_same]; simpa using hv
            clear hn hix hv
            go_wp2_with (go_at_call 81; refine (HN.out _).mono ?_; rintro e w' ⟨rfl, rfl⟩)
            go_region_with ((go_at_call 86; refine (HT.out _ ?_).mono ?_; exact hB0.drew; rintro e w1 ⟨rfl, hb1⟩; have hbb : Below wr.heap.size wr w1 := (hB0.drew).trans (hb1.mono (by simp)); have d1 : w1.cell? ⟨wr.heap.size, 1, none⟩ = some (.string l[k].value) := (hb1.cell (p := ⟨wr.heap.size, 1, none⟩) (by simp)).trans (by simp)))
            all_goals go_wp2_with (go_at_call 101; refine (HX.out _ hbb).mono ?_; rintro e w2 ⟨rfl, hb2⟩; obtain ⟨tx, htx⟩ := escVal_code l[k].value.data.toList; rw [htx]; have hfl := fld0 (Esc.vcode l[k].value.data.toList) tx)
            all_goals go_ret
            all_goals exact ⟨by rw [HW.out, HV.out]; rfl, HB.out.trans ((hbb.trans (hb2.mono hbb.size)).mono hZ)⟩
      · have b1 : (nf l[k].name.data.toList != 0) = true := by simpa using hn
        have HV : Hid (acode l = nf l[k].name.data.toList) := hid (HS.out.name hlt hn)
        clear hn
        go_wp2_with (go_at_call 81; refine (HN.out _).mono ?_; rintro e w' ⟨rfl, rfl⟩)
        go_ret
        exact ⟨by rw [HW.out, HV.out]; rfl, HB.out.alloc hZ _⟩
    · have HV : Hid (acode l = 0) := hid (HS.out.done hlt)
      go_wp2
      go_ret
      exact ⟨by rw [HW.out, HV.out]; rfl, HB.out⟩
end Tr
end Go.Proofs.YtahkpgffoiaeiaaGreatDoor
/- Elements as the program's tree; TreeFault of the program. Condition: the table of entities lies as its initialiser lays it. -/
namespace Go.Proofs.YtahkpgffoiaeiaaGreatDoor
open Go.RowKit
set_option linter.unusedVariables false
namespace Tr
/-- The places, ahead of n, of those whose parent is j. -/
def kidsN (es : List ElemD) (n j : Nat) : List Nat := (List.range n).filter fun i => (es[i]?.map (·.parent)) == some (j : Int)
theorem kidsN_succ {es : List ElemD} {n j : Nat} (h : n < es.length) : kidsN es (n + 1) j = kidsN es n j ++ (if (j : Int) = es[n].parent then [n] else []) := by
  unfold kidsN
  rw [List.range_succ, List.filter_append]
  congr 1
  by_cases e : (j : Int) = es[n].parent
  · simp [List.getElem?_eq_getElem h, e]
  · have : ¬ (es[n].parent = (j : Int)) := fun h => e h.symm
    simp [List.getElem?_eq_getElem h, e, this]
theorem kidsN_lt {es : List ElemD} {n j : Nat} (hn : 0 < n) (h : n ≤ es.length) (h0 : ∀ h : 0 < es.length, es[0].parent < 0) : (kidsN es n j).length < n := by
  unfold kidsN
  have : List.range n = 0 :: (List.range (n - 1)).map (· + 1) := by
    rw [← List.range_succ_eq_map]; congr 1; omega
  rw [this, List.filter_cons]
  have hb : ((es[0]?.map (·.parent)) == some (j : Int)) = false := by
    rw [List.getElem?_eq_getElem (by omega), Option.map_some, beq_eq_false_iff_ne]
    intro e
    have e2 := Option.some.inj e
    have := h0 (by omega)
    omega
  rw [hb]
  have := List.length_filter_le (fun i => (es[i]?.map (·.parent)) == some (j : Int)) ((List.range (n - 1)).map (· + 1))
  simp only [List.length_map, List.length_range] at this
  simp only [Bool.false_eq_true, if_false]
  omega
/-- The tree is that of the elements, as far as n. -/
structure TreeIs (w : World) (es : List ElemD) (n : Nat) (T : Nat → Br) : Prop where
  tag : ∀ j (h : j < es.length), j < n → (T j).tag = es[j].tag
  par : ∀ j (h : j < es.length), j < n → (T j).par = es[j].parent
  va : ∀ j (h : j < es.length), j < n → AttrsAt w 0 (T j).va es[j].attrs
  kids : ∀ j, j < n → (T j).kids = kidsN es n j
  low : ∀ j (h : j < es.length), j < n → es[j].parent < j
theorem TreeIs.below {w w' : World} {es : List ElemD} {n : Nat} {T : Nat → Br} (h : TreeIs w es n T) (hb : ∀ {v ats}, AttrsAt w 0 v ats → AttrsAt w' 0 v ats) : TreeIs w' es n T := ⟨h.tag, h.par, fun j h1 h2 => hb (h.va j h1 h2), h.kids, h.low⟩
theorem TreeIs.grew {w : World} {es : List ElemD} {n d : Nat} {T T' : Nat → Br} {va : Value} (h : TreeIs w es n T) (hn : n < es.length) (hg : Grew T T' n es[n].parent es[n].tag va d) (hva : AttrsAt w 0 va es[n].attrs) (hlow : es[n].parent < n) : TreeIs w es (n + 1) T' := by
  refine ⟨fun j h1 h2 => ?_, fun j h1 h2 => ?_, fun j h1 h2 => ?_, fun j h2 => ?_, fun j h1 h2 => ?_⟩
  · by_cases e : j = n
    · subst e; exact hg.tag
    · rw [(hg.old j (by omega)).1]; exact h.tag j h1 (by omega)
  · by_cases e : j = n
    · subst e; exact hg.par
    · rw [(hg.old j (by omega)).2.1]; exact h.par j h1 (by omega)
  · by_cases e : j = n
    · subst e; rw [hg.va]; exact hva
    · rw [(hg.old j (by omega)).2.2.1]; exact h.va j h1 (by omega)
  · rw [kidsN_succ hn]
    by_cases e : j = n
    · subst e
      rw [hg.kids, if_neg (by omega), List.append_nil]
      symm
      unfold kidsN
      rw [List.filter_eq_nil_iff]
      intro i hi
      have hi' : i < j := by simpa using hi
      rw [List.getElem?_eq_getElem (by omega), Option.map_some, beq_iff_eq]
      intro e
      have e2 := Option.some.inj e
      have := h.low i (by omega) hi'
      omega
    · rw [(hg.old j (by omega)).2.2.2.2, h.kids j (by omega)]
  · by_cases e : j = n
    · subst e; exact hlow
    · exact h.low j h1 (by omega)
theorem TreeIs.start (w : World) (es : List ElemD) (T : Nat → Br) : TreeIs w es 0 T := ⟨fun j _ h => by omega, fun j _ h => by omega, fun j _ h => by omega, fun j h => by omega, fun j _ h => by omega⟩
theorem f_range {es : List ElemD} {i : Nat} {S : List Nat} (h : i < es.length) (hp : (i = 0 ∧ es[i].parent ≠ -1) ∨ (0 < i ∧ ¬ (0 ≤ es[i].parent ∧ es[i].parent < i))) : fcode i S es[i].parent = 3 := by
  have : pfault i S es[i].parent = 3 := by
    unfold pfault
    rcases hp with ⟨h0, hp⟩ | ⟨h0, hp⟩
    · rw [if_pos h0, if_neg hp]
    · rw [if_neg (by omega), if_neg hp]
  unfold fcode
  rw [this]
  rfl
theorem f_form {es : List ElemD} {i : Nat} {S : List Nat} (h : i < es.length) (hp : ¬ ((i = 0 ∧ es[i].parent ≠ -1) ∨ (0 < i ∧ ¬ (0 ≤ es[i].parent ∧ es[i].parent < i)))) (hf : 0 < i ∧ onPath es[i].parent S = false) : fcode i S es[i].parent = 1 := by
  have : pfault i S es[i].parent = 1 := by
    unfold pfault
    rw [if_neg (by omega), if_pos (Classical.byContradiction (fun e => hp (.inr ⟨hf.1, e⟩))), hf.2]
    rfl
  unfold fcode
  rw [this]
  rfl
theorem f_else {es : List ElemD} {i : Nat} {S : List Nat} (h : i < es.length) (hp : ¬ ((i = 0 ∧ es[i].parent ≠ -1) ∨ (0 < i ∧ ¬ (0 ≤ es[i].parent ∧ es[i].parent < i)))) (hf : ¬ (0 < i ∧ onPath es[i].parent S = false)) : fcode i S es[i].parent = if 8 < (cutTo es[i].parent S).length + 1 then 2 else 0 := by
  have : pfault i S es[i].parent = 0 := by
    unfold pfault
    by_cases h0 : i = 0
    · rw [if_pos h0, if_pos (Classical.byContradiction (fun e => hp (.inl ⟨h0, e⟩)))]
    · rw [if_neg h0, if_pos (Classical.byContradiction (fun e => hp (.inr ⟨by omega, e⟩)))]
      cases hb : onPath es[i].parent S
      · exact absurd ⟨by omega, hb⟩ hf
      · rfl
  unfold fcode
  rw [this]
  rfl
theorem low_of {es : List ElemD} {i : Nat} (h : i < es.length) (hp : ¬ ((i = 0 ∧ es[i].parent ≠ -1) ∨ (0 < i ∧ ¬ (0 ≤ es[i].parent ∧ es[i].parent < i)))) : es[i].parent < i := by
  rcases Nat.eq_zero_or_pos i with h0 | h0
  · have : ¬ es[i].parent ≠ -1 := fun e => hp (.inl ⟨h0, e⟩)
    omega
  · have : ¬ ¬ (0 ≤ es[i].parent ∧ es[i].parent < i) := fun e => hp (.inr ⟨h0, e⟩)
    omega
/-- How far the program has come. -/
structure Built (w wr : World) (es : List ElemD) (i : Nat) (S : List Nat) (v : Value) (T : Nat → Br) : Prop where
  seen : Seen es i S
  tree : TreeAt wr w.heap.size v i T
  is : TreeIs w es i T
  deep : DeepOn T S
  below : Below w.heap.size w wr
theorem Built.lens {w wr : World} {es : List ElemD} {i : Nat} {S : List Nat} {v : Value} {T : Nat → Br} (h : Built w wr es i S v T) : ∀ j, j < i → (T j).kids.length < i := fun j hj => by
  rw [h.is.kids j hj]
  exact kidsN_lt (by omega) h.seen.le (fun h0 => by have := h.is.low 0 h0 (by omega); simpa using this)
end Tr
end Go.Proofs.YtahkpgffoiaeiaaGreatDoor
/- elemTree and TreeFault of the program. Condition: the table of entities lies as its initialiser lays it. -/
namespace Go.Proofs.YtahkpgffoiaeiaaGreatDoor
open Go.RowKit
set_option linter.unusedVariables false
namespace Tr
theorem small_elem {n : Int} {es : List ElemD} {i : Nat} (h : SmallE n es) (hi : i < es.length) : (es[i].attrs.length : Int) ≤ n := (h.2 es[i] (List.getElem_mem hi)).2.1
theorem off_cell {w w' : World} {v x : Value} {n b o : Nat} {T : Nat → Br} (h : KeptOff w w' v n T) (ho : Off v n T b) (hc : w.cell? ⟨b, o, none⟩ = some x) : w'.cell? ⟨b, o, none⟩ = some x := by
  have hb : b < w.heap.size := by
    rcases Nat.lt_or_ge b w.heap.size with h1 | h1
    · exact h1
    · simp [World.cell?, Array.getElem?_eq_none h1] at hc
  simp only [World.cell?] at hc ⊢
  rw [h.block b hb ho]
  exact hc
set_option maxRecDepth 100000 in
set_option maxHeartbeats 4000000 in
theorem elemTree (es : List ElemD) (v : Value) (w : World) (hl : SmallE 1048576 es) (hk : OkE es) (ha : ElemsAt w 0 v es) (he : Esc.Ent w) (hw : 2 < w.heap.size) :
    Calls Tryz.prog 65 #[v] w fun e w' => (∃ v', e = .returned (.tuple #[v', .int .i64 (fault es)]) ∧ (fault es ≠ 0 → v' = .slice none 0 0) ∧
      (fault es = 0 → ∃ T, TreeAt w' w.heap.size v' es.length T ∧ TreeIs w es es.length T)) ∧ Below w.heap.size w w' := by
  obtain ⟨a, cap, rfl⟩ := ha.slice
  have HA := hid ha
  have HK := hid hk
  have HE := hid he
  have HL := hid hl
  have hlen := hl.1
  clear ha hk he hl
  by_cases z1 : es.length < 1
  · have HV := hid (fault_many (.inl z1))
    have q : (es.length : Int) < 1 := by omega
    go_enter Tryz.func65, Tryz.ntmps65
    go_wp2
    go_ret2
    exact ⟨⟨_, by rw [HV.out]; rfl, fun _ => rfl, fun e => by rw [HV.out] at e; omega⟩, Below.refl _ _⟩
  by_cases z2 : 40 < es.length
  · have HV := hid (fault_many (.inr z2))
    have q : ¬ (es.length : Int) < 1 := by omega
    have q' : (40 : Int) < (es.length : Int) := by omega
    go_enter Tryz.func65, Tryz.ntmps65
    go_wp2
    go_ret2
    exact ⟨⟨_, by rw [HV.out]; rfl, fun _ => rfl, fun e => by rw [HV.out] at e; omega⟩, Below.refl _ _⟩
  have q : ¬ (es.length : Int) < 1 := by omega
  have q' : ¬ (40 : Int) < (es.length : Int) := by omega
  have HZ := hid (Seen.start z1 z2)
  have hl40 : es.length ≤ 40 := by omega
  clear z1 z2
  go_enter Tryz.func65, Tryz.ntmps65
  go_wp2
  go_loopw [4, 5, 7, 18] (fun t _ _ x wr => ∃ (i : Nat) (S : List Nat) (T : Nat → Br), x = .int .i64 i ∧ i ≤ es.length ∧ (∃ a4 c4, t = .slice a4 i c4) ∧ Hid (Built w wr es i S t T)) (fun _ _ _ x _ => es.length - (intOf x).toNat)
  case atStart => exact ⟨0, [], fun _ => ⟨ByteArray.empty, 0, .slice none 0 0, 0, .slice none 0 0, []⟩, rfl, Nat.zero_le _, ⟨_, _, rfl⟩, HZ.out, TreeAt.nil _ _ _, TreeIs.start _ _ _, trivial, Below.refl _ _⟩
  case round =>
    obtain ⟨i, S, T, rfl, hil, ⟨a4, c4, rfl⟩, HB⟩ := hrel
    have hZ := HB.out.below.size
    by_cases hlt : i < es.length
    · obtain ⟨g, o, va, rfl, hg0, d0, d1, d2, hva⟩ := HA.out.at hlt
      obtain ⟨b, e2, rfl⟩ := hva.slice
      have c0 := (HB.out.below.cell (p := ⟨g, o + i * 3, none⟩) hg0).trans d0
      have c1 := (HB.out.below.cell (p := ⟨g, o + i * 3 + 1, none⟩) hg0).trans d1
      have c2 := (HB.out.below.cell (p := ⟨g, o + i * 3 + 2, none⟩) hg0).trans d2
      have hg : g < wr.heap.size := Nat.lt_of_lt_of_le hg0 hZ
      have HVA := hid hva
      clear d0 d1 d2 hva
      have q1 : (i : Int) < (es.length : Int) := by omega
      have hkk := HK.out es[i] (List.getElem_mem hlt)
      have k1 := hkk.1
      have HKA := hid hkk.2.1
      clear hkk
      have HN := hid (fun w' => impl_nf es[i].tag w' k1)
      have hB0 : Below wr.heap.size wr (wr.alloc (.cells #[.string es[i].tag, .int .i64 es[i].parent, .slice b es[i].attrs.length e2] 48)) := (Below.refl _ wr).alloc (Nat.le_refl _) _
      have hBw : Below w.heap.size w (wr.alloc (.cells #[.string es[i].tag, .int .i64 es[i].parent, .slice b es[i].attrs.length e2] 48)) := HB.out.below.alloc hZ _
      by_cases hn : nf es[i].tag.data.toList = 0
      · have b1 : (nf es[i].tag.data.toList != 0) = false := by simp [hn]
        have HF := hid (fillTree es T S w.heap.size (.slice a4 i c4) i es[i].tag es[i].parent b es[i].attrs.length e2 (wr.alloc (.cells #[.string es[i].tag, .int .i64 es[i].parent, .slice b es[i].attrs.length e2] 48)) (by omega) hil (by simp; omega) (HB.out.tree.below hB0) (fun j h hj => HB.out.is.par j h hj) HB.out.seen.chain HB.out.seen.first HB.out.deep HB.out.seen.deep HB.out.lens)
        have HT0 := hid (HB.out.tree.below hB0)
        have HOFF := hid (off_new HB.out.tree (Nat.le_refl _))
        by_cases hp : (i = 0 ∧ es[i].parent ≠ -1) ∨ (0 < i ∧ ¬ (0 ≤ es[i].parent ∧ es[i].parent < i))
        · have HV := hid (HB.out.seen.range hlt hn hp)
          have HC := hid (f_range (S := S) hlt hp)
          clear hp hn
          go_wp2_with (first | (go_at_call 81; refine (HN.out _).mono ?_; rintro e w' ⟨rfl, rfl⟩) | (go_at_call 82; refine HF.out.mono ?_; rintro e w2 ⟨⟨v', rfl, hv1, _⟩, hk2⟩; obtain rfl := hv1 (by rw [HC.out]; decide); rw [HC.out]))
          go_ret2
          exact ⟨⟨_, by rw [HV.out]; rfl, fun _ => rfl, fun e => by rw [HV.out] at e; omega⟩, hBw.trans (hk2.below HT0.out (by simp; omega))⟩
        · by_cases hf : 0 < i ∧ onPath es[i].parent S = false
          · have HV := hid (HB.out.seen.form hlt hn hp hf)
            have HC := hid (f_form hlt hp hf)
            clear hp hn hf
            go_wp2_with (first | (go_at_call 81; refine (HN.out _).mono ?_; rintro e w' ⟨rfl, rfl⟩) | (go_at_call 82; refine HF.out.mono ?_; rintro e w2 ⟨⟨v', rfl, hv1, _⟩, hk2⟩; obtain rfl := hv1 (by rw [HC.out]; decide); rw [HC.out]))
            go_ret2
            exact ⟨⟨_, by rw [HV.out]; rfl, fun _ => rfl, fun e => by rw [HV.out] at e; omega⟩, hBw.trans (hk2.below HT0.out (by simp; omega))⟩
          have hfe := f_else hlt hp hf
          by_cases h9 : 8 < (cutTo es[i].parent S).length + 1
          · have HV := hid (HB.out.seen.many hlt hn hp hf (.inl h9))
            have HC : Hid (fcode i S es[i].parent = 2) := hid (by rw [hfe, if_pos h9])
            clear hp hn hf hfe h9
            go_wp2_with (first | (go_at_call 81; refine (HN.out _).mono ?_; rintro e w' ⟨rfl, rfl⟩) | (go_at_call 82; refine HF.out.mono ?_; rintro e w2 ⟨⟨v', rfl, hv1, _⟩, hk2⟩; obtain rfl := hv1 (by rw [HC.out]; decide); rw [HC.out]))
            go_ret2
            exact ⟨⟨_, by rw [HV.out]; rfl, fun _ => rfl, fun e => by rw [HV.out] at e; omega⟩, hBw.trans (hk2.below HT0.out (by simp; omega))⟩
          have HC : Hid (fcode i S es[i].parent = 0) := hid (by rw [hfe, if_neg h9])
          have hsm : es[i].attrs.length ≤ 1048576 := by have := small_elem HL.out hlt; omega
          have HAT := hid (fun w' (hb : Below w.heap.size w w') => implAttrsFault 0 es[i].attrs (.slice b es[i].attrs.length e2) w' HKA.out hsm (HVA.out.below hb) (Esc.Ent.below HE.out hb hw) (by have := hb.size; omega))
          by_cases h6 : acodeI es[i].attrs = 0
          · have hnx : Seen es (i + 1) (i :: cutTo es[i].parent S) := by
              unfold acodeI at h6
              by_cases h7 : 6 < es[i].attrs.length
              · rw [if_pos h7] at h6; omega
              · rw [if_neg h7] at h6
                exact HB.out.seen.next hlt hn hp hf (by omega) h6
            have HNX := hid hnx
            have HLW := hid (low_of hlt hp)
            have b3 : (acodeI es[i].attrs != 0) = false := by simp [h6]
            clear hp hn hf hfe h9 h6 hnx
            go_wp2_with (first
              | (go_at_call 81; refine (HN.out _).mono ?_; rintro e w' ⟨rfl, rfl⟩)
              | (go_at_call 82; refine HF.out.mono ?_; rintro e w2 ⟨⟨v', rfl, _, hv2⟩, hk2⟩; obtain ⟨T', hT', hG'⟩ := hv2 HC.out; rw [HC.out]; obtain ⟨a5, c5, rfl⟩ := hT'.slice; have HT' := hid hT'; have HG' := hid hG'; have hBw2 : Below w.heap.size w w2 := hBw.trans (hk2.below HT0.out (by simp; omega)); have d2 : w2.cell? ⟨wr.heap.size, 2, none⟩ = some (.slice b es[i].attrs.length e2) := off_cell hk2 HOFF.out (by go_simp); clear hT' hG' hv2)
              | (go_at_call 83; refine (HAT.out _ hBw2).mono ?_; rintro e w3 ⟨rfl, hb3⟩))
            have hch := HNX.out.chain
            have hdp : DeepOn T' (i :: cutTo es[i].parent S) := ⟨HG'.out.deep, deep_congr (fun j hj => (HG'.out.old j hj).2.2.2.1) (chain_tail hch) (top_lt hch) (deep_cut HB.out.deep)⟩
            exact ⟨⟨i + 1, _, T', by simp, by omega, ⟨_, _, rfl⟩, HNX.out, HT'.out.below hb3, HB.out.is.grew hlt HG'.out HVA.out HLW.out, hdp, hBw2.trans (hb3.mono hBw2.size)⟩, by simp [intOf]; omega⟩
          · have HV : Hid (fault es = acodeI es[i].attrs) := hid (by
              unfold acodeI at h6 ⊢
              by_cases h7 : 6 < es[i].attrs.length
              · rw [if_pos h7]
                exact HB.out.seen.many hlt hn hp hf (.inr h7)
              · rw [if_neg h7] at h6 ⊢
                exact HB.out.seen.attr hlt hn hp hf (by omega) h6)
            have HNZ := hid h6
            have b3 : (acodeI es[i].attrs != 0) = true := by simpa using h6
            clear hp hn hf hfe h9 h6
            go_wp2_with (first
              | (go_at_call 81; refine (HN.out _).mono ?_; rintro e w' ⟨rfl, rfl⟩)
              | (go_at_call 82; refine HF.out.mono ?_; rintro e w2 ⟨⟨v', rfl, _, hv2⟩, hk2⟩; obtain ⟨T', hT', hG'⟩ := hv2 HC.out; rw [HC.out]; obtain ⟨a5, c5, rfl⟩ := hT'.slice; have hBw2 : Below w.heap.size w w2 := hBw.trans (hk2.below HT0.out (by simp; omega)); have d2 : w2.cell? ⟨wr.heap.size, 2, none⟩ = some (.slice b es[i].attrs.length e2) := off_cell hk2 HOFF.out (by go_simp); clear hT' hG' hv2)
              | (go_at_call 83; refine (HAT.out _ hBw2).mono ?_; rintro e w3 ⟨rfl, hb3⟩))
            go_ret2
            exact ⟨⟨_, by rw [HV.out]; rfl, fun _ => rfl, fun e => absurd (by rw [← HV.out]; exact e) HNZ.out⟩, hBw2.trans (hb3.mono hBw2.size)⟩
      · have b1 : (nf es[i].tag.data.toList != 0) = true := by simpa using hn
        have HV := hid (HB.out.seen.name hlt hn)
        have HNZ := hid hn
        clear hn
        go_wp2_with (go_at_call 81; refine (HN.out _).mono ?_; rintro e w' ⟨rfl, rfl⟩)
        go_ret2
        exact ⟨⟨_, by rw [HV.out]; rfl, fun _ => rfl, fun e => absurd (by rw [← HV.out]; exact e) HNZ.out⟩, hBw⟩
    · have HV := hid (HB.out.seen.done hlt)
      have hie : i = es.length := by omega
      have HI := hid hie
      clear hie
      go_wp2
      go_ret2
      refine ⟨⟨_, by rw [HV.out]; rfl, fun e => absurd HV.out e, fun _ => ⟨T, ?_, ?_⟩⟩, HB.out.below⟩
      · show TreeAt wr w.heap.size (.slice a4 i c4) es.length T
        rw [← HI.out]
        exact HB.out.tree
      · rw [← HI.out]
        exact HB.out.is
set_option maxRecDepth 100000 in
set_option maxHeartbeats 1000000 in
theorem implFault (es : List ElemD) (v : Value) (w : World) (hl : SmallE 1048576 es) (hk : OkE es) (ha : ElemsAt w 0 v es) (he : Esc.Ent w) (hw : 2 < w.heap.size) :
    Calls Tryz.prog 39 #[v] w fun e w' => e = .returned (.int .i64 (fault es)) ∧ Below w.heap.size w w' := by
  have HC := hid (elemTree es v w hl hk ha he hw)
  obtain ⟨a, cap, rfl⟩ := ha.slice
  clear ha hk hl he
  go_enter Tryz.func39, Tryz.ntmps39
  go_wp2_with (go_at_call 65; refine HC.out.mono ?_; rintro e w' ⟨⟨v', rfl, _, _⟩, hb⟩)
  go_ret
  exact ⟨rfl, hb⟩
end Tr
end Go.Proofs.YtahkpgffoiaeiaaGreatDoor
