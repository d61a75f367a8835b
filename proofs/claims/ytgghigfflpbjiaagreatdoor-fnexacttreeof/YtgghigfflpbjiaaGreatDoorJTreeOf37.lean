/- elemTree and TreeFault of the program. Condition: the table of entities lies as its initialiser lays it. -/
import Derived.Test.YtgghigfflpbjiaaGreatDoorJTreeOf19
namespace Go.Proofs.YtgghigfflpbjiaaGreatDoor
open Go.RowKit
set_option linter.unusedVariables false
namespace Tr
theorem small_elem {n : Int} {es : List ElemD} {i : Nat} (h : SmallE n es) (hi : i < es.length) : (es[i].attrs.length : Int) ≤ n := (h.2 es[i] (List.getElem_mem hi)).2.1
theorem off_cell {w w' : World} {v x : Value} {n b o : Nat} {T : Nat → Br} (h : KeptOff w w' v n T) (ho : Off v n T b) (hc : w.cell? ⟨b, o, none⟩ = some x) : w'.cell? ⟨b, o, none⟩ = some x := by
  have hb : b < w.heap.size := by
    rcases Nat.lt_or_ge b w.heap.size with h1 | h1
    · exact h1
    · simp [World.cell?, Array.getElem?_eq_none h1] at hc
  simp only [World.cell?] at hc ⊢
  rw [h.block b hb ho]
  exact hc
set_option maxRecDepth 100000 in
set_option maxHeartbeats 4000000 in
theorem elemTree (es : List ElemD) (v : Value) (w : World) (hl : SmallE 1048576 es) (hk : OkE es) (ha : ElemsAt w 0 v es) (he : Esc.Ent w) (hw : 2 < w.heap.size) :
    Calls Tryz.prog 50 #[v] w fun e w' => (∃ v', e = .returned (.tuple #[v', .int .i64 (fault es)]) ∧ (fault es ≠ 0 → v' = .slice none 0 0) ∧
      (fault es = 0 → ∃ T, TreeAt w' w.heap.size v' es.length T ∧ TreeIs w es es.length T)) ∧ Below w.heap.size w w' := by
  obtain ⟨a, cap, rfl⟩ := ha.slice
  have HA := hid ha
  have HK := hid hk
  have HE := hid he
  have HL := hid hl
  have hlen := hl.1
  clear ha hk he hl
  by_cases z1 : es.length < 1
  · have HV := hid (fault_many (.inl z1))
    have q : (es.length : Int) < 1 := by omega
    go_enter Tryz.func50, Tryz.ntmps50
    go_wp2
    go_ret2
    exact ⟨⟨_, by rw [HV.out]; rfl, fun _ => rfl, fun e => by rw [HV.out] at e; omega⟩, Below.refl _ _⟩
  by_cases z2 : 40 < es.length
  · have HV := hid (fault_many (.inr z2))
    have q : ¬ (es.length : Int) < 1 := by omega
    have q' : (40 : Int) < (es.length : Int) := by omega
    go_enter Tryz.func50, Tryz.ntmps50
    go_wp2
    go_ret2
    exact ⟨⟨_, by rw [HV.out]; rfl, fun _ => rfl, fun e => by rw [HV.out] at e; omega⟩, Below.refl _ _⟩
  have q : ¬ (es.length : Int) < 1 := by omega
  have q' : ¬ (40 : Int) < (es.length : Int) := by omega
  have HZ := hid (Seen.start z1 z2)
  have hl40 : es.length ≤ 40 := by omega
  clear z1 z2
  go_enter Tryz.func50, Tryz.ntmps50
  go_wp2
  go_loopw [4, 5, 7, 18] (fun t _ _ x wr => ∃ (i : Nat) (S : List Nat) (T : Nat → Br), x = .int .i64 i ∧ i ≤ es.length ∧ (∃ a4 c4, t = .slice a4 i c4) ∧ Hid (Built w wr es i S t T)) (fun _ _ _ x _ => es.length - (intOf x).toNat)
  case atStart => exact ⟨0, [], fun _ => ⟨ByteArray.empty, 0, .slice none 0 0, 0, .slice none 0 0, []⟩, rfl, Nat.zero_le _, ⟨_, _, rfl⟩, HZ.out, TreeAt.nil _ _ _, TreeIs.start _ _ _, trivial, Below.refl _ _⟩
  case round =>
    obtain ⟨i, S, T, rfl, hil, ⟨a4, c4, rfl⟩, HB⟩ := hrel
    have hZ := HB.out.below.size
    by_cases hlt : i < es.length
    · obtain ⟨g, o, va, rfl, hg0, d0, d1, d2, hva⟩ := HA.out.at hlt
      obtain ⟨b, e2, rfl⟩ := hva.slice
      have c0 := (HB.out.below.cell (p := ⟨g, o + i * 3, none⟩) hg0).trans d0
      have c1 := (HB.out.below.cell (p := ⟨g, o + i * 3 + 1, none⟩) hg0).trans d1
      have c2 := (HB.out.below.cell (p := ⟨g, o + i * 3 + 2, none⟩) hg0).trans d2
      have hg : g < wr.heap.size := Nat.lt_of_lt_of_le hg0 hZ
      have HVA := hid hva
      clear d0 d1 d2 hva
      have q1 : (i : Int) < (es.length : Int) := by omega
      have hkk := HK.out es[i] (List.getElem_mem hlt)
      have k1 := hkk.1
      have HKA := hid hkk.2.1
      clear hkk
      have HN := hid (fun w' => impl_nf es[i].tag w' k1)
      have hB0 : Below wr.heap.size wr (wr.alloc (.cells #[.string es[i].tag, .int .i64 es[i].parent, .slice b es[i].attrs.length e2] 53)) := (Below.refl _ wr).alloc (Nat.le_refl _) _
      have hBw : Below w.heap.size w (wr.alloc (.cells #[.string es[i].tag, .int .i64 es[i].parent, .slice b es[i].attrs.length e2] 53)) := HB.out.below.alloc hZ _
      by_cases hn : nf es[i].tag.data.toList = 0
      · have b1 : (nf es[i].tag.data.toList != 0) = false := by simp [hn]
        have HF := hid (fillTree es T S w.heap.size (.slice a4 i c4) i es[i].tag es[i].parent b es[i].attrs.length e2 (wr.alloc (.cells #[.string es[i].tag, .int .i64 es[i].parent, .slice b es[i].attrs.length e2] 53)) (by omega) hil (by simp; omega) (HB.out.tree.below hB0) (fun j h hj => HB.out.is.par j h hj) HB.out.seen.chain HB.out.seen.first HB.out.deep HB.out.seen.deep HB.out.lens)
        have HT0 := hid (HB.out.tree.below hB0)
        have HOFF := hid (off_new HB.out.tree (Nat.le_refl _))
        by_cases hp : (i = 0 ∧ es[i].parent ≠ -1) ∨ (0 < i ∧ ¬ (0 ≤ es[i].parent ∧ es[i].parent < i))
        · have HV := hid (HB.out.seen.range hlt hn hp)
          have HC := hid (f_range (S := S) hlt hp)
          clear hp hn
          go_wp2_with (first | (go_at_call 81; refine (HN.out _).mono ?_; rintro e w' ⟨rfl, rfl⟩) | (go_at_call 82; refine HF.out.mono ?_; rintro e w2 ⟨⟨v', rfl, hv1, _⟩, hk2⟩; obtain rfl := hv1 (by rw [HC.out]; decide); rw [HC.out]))
          go_ret2
          exact ⟨⟨_, by rw [HV.out]; rfl, fun _ => rfl, fun e => by rw [HV.out] at e; omega⟩, hBw.trans (hk2.below HT0.out (by simp; omega))⟩
        · by_cases hf : 0 < i ∧ onPath es[i].parent S = false
          · have HV := hid (HB.out.seen.form hlt hn hp hf)
            have HC := hid (f_form hlt hp hf)
            clear hp hn hf
            go_wp2_with (first | (go_at_call 81; refine (HN.out _).mono ?_; rintro e w' ⟨rfl, rfl⟩) | (go_at_call 82; refine HF.out.mono ?_; rintro e w2 ⟨⟨v', rfl, hv1, _⟩, hk2⟩; obtain rfl := hv1 (by rw [HC.out]; decide); rw [HC.out]))
            go_ret2
            exact ⟨⟨_, by rw [HV.out]; rfl, fun _ => rfl, fun e => by rw [HV.out] at e; omega⟩, hBw.trans (hk2.below HT0.out (by simp; omega))⟩
          have hfe := f_else hlt hp hf
          by_cases h9 : 8 < (cutTo es[i].parent S).length + 1
          · have HV := hid (HB.out.seen.many hlt hn hp hf (.inl h9))
            have HC : Hid (fcode i S es[i].parent = 2) := hid (by rw [hfe, if_pos h9])
            clear hp hn hf hfe h9
            go_wp2_with (first | (go_at_call 81; refine (HN.out _).mono ?_; rintro e w' ⟨rfl, rfl⟩) | (go_at_call 82; refine HF.out.mono ?_; rintro e w2 ⟨⟨v', rfl, hv1, _⟩, hk2⟩; obtain rfl := hv1 (by rw [HC.out]; decide); rw [HC.out]))
            go_ret2
            exact ⟨⟨_, by rw [HV.out]; rfl, fun _ => rfl, fun e => by rw [HV.out] at e; omega⟩, hBw.trans (hk2.below HT0.out (by simp; omega))⟩
          have HC : Hid (fcode i S es[i].parent = 0) := hid (by rw [hfe, if_neg h9])
          have hsm : es[i].attrs.length ≤ 1048576 := by have := small_elem HL.out hlt; omega
          have HAT := hid (fun w' (hb : Below w.heap.size w w') => implAttrsFault 0 es[i].attrs (.slice b es[i].attrs.length e2) w' HKA.out hsm (HVA.out.below hb) (Esc.Ent.below HE.out hb hw) (by have := hb.size; omega))
          by_cases h6 : acodeI es[i].attrs = 0
          · have hnx : Seen es (i + 1) (i :: cutTo es[i].parent S) := by
              unfold acodeI at h6
              by_cases h7 : 6 < es[i].attrs.length
              · rw [if_pos h7] at h6; omega
              · rw [if_neg h7] at h6
                exact HB.out.seen.next hlt hn hp hf (by omega) h6
            have HNX := hid hnx
            have HLW := hid (low_of hlt hp)
            have b3 : (acodeI es[i].attrs != 0) = false := by simp [h6]
            clear hp hn hf hfe h9 h6 hnx
            go_wp2_with (first
              | (go_at_call 81; refine (HN.out _).mono ?_; rintro e w' ⟨rfl, rfl⟩)
              | (go_at_call 82; refine HF.out.mono ?_; rintro e w2 ⟨⟨v', rfl, _, hv2⟩, hk2⟩; obtain ⟨T', hT', hG'⟩ := hv2 HC.out; rw [HC.out]; obtain ⟨a5, c5, rfl⟩ := hT'.slice; have HT' := hid hT'; have HG' := hid hG'; have hBw2 : Below w.heap.size w w2 := hBw.trans (hk2.below HT0.out (by simp; omega)); have d2 : w2.cell? ⟨wr.heap.size, 2, none⟩ = some (.slice b es[i].attrs.length e2) := off_cell hk2 HOFF.out (by go_simp); clear hT' hG' hv2)
              | (go_at_call 83; refine (HAT.out _ hBw2).mono ?_; rintro e w3 ⟨rfl, hb3⟩))
            have hch := HNX.out.chain
            have hdp : DeepOn T' (i :: cutTo es[i].parent S) := ⟨HG'.out.deep, deep_congr (fun j hj => (HG'.out.old j hj).2.2.2.1) (chain_tail hch) (top_lt hch) (deep_cut HB.out.deep)⟩
            exact ⟨⟨i + 1, _, T', by simp, by omega, ⟨_, _, rfl⟩, HNX.out, HT'.out.below hb3, HB.out.is.grew hlt HG'.out HVA.out HLW.out, hdp, hBw2.trans (hb3.mono hBw2.size)⟩, by simp [intOf]; omega⟩
          · have HV : Hid (fault es = acodeI es[i].attrs) := hid (by
              unfold acodeI at h6 ⊢
              by_cases h7 : 6 < es[i].attrs.length
              · rw [if_pos h7]
                exact HB.out.seen.many hlt hn hp hf (.inr h7)
              · rw [if_neg h7] at h6 ⊢
                exact HB.out.seen.attr hlt hn hp hf (by omega) h6)
            have HNZ := hid h6
            have b3 : (acodeI es[i].attrs != 0) = true := by simpa using h6
            clear hp hn hf hfe h9 h6
            go_wp2_with (first
              | (go_at_call 81; refine (HN.out _).mono ?_; rintro e w' ⟨rfl, rfl⟩)
              | (go_at_call 82; refine HF.out.mono ?_; rintro e w2 ⟨⟨v', rfl, _, hv2⟩, hk2⟩; obtain ⟨T', hT', hG'⟩ := hv2 HC.out; rw [HC.out]; obtain ⟨a5, c5, rfl⟩ := hT'.slice; have hBw2 : Below w.heap.size w w2 := hBw.trans (hk2.below HT0.out (by simp; omega)); have d2 : w2.cell? ⟨wr.heap.size, 2, none⟩ = some (.slice b es[i].attrs.length e2) := off_cell hk2 HOFF.out (by go_simp); clear hT' hG' hv2)
              | (go_at_call 83; refine (HAT.out _ hBw2).mono ?_; rintro e w3 ⟨rfl, hb3⟩))
            go_ret2
            exact ⟨⟨_, by rw [HV.out]; rfl, fun _ => rfl, fun e => absurd (by rw [← HV.out]; exact e) HNZ.out⟩, hBw2.trans (hb3.mono hBw2.size)⟩
      · have b1 : (nf es[i].tag.data.toList != 0) = true := by simpa using hn
        have HV := hid (HB.out.seen.name hlt hn)
        have HNZ := hid hn
        clear hn
        go_wp2_with (go_at_call 81; refine (HN.out _).mono ?_; rintro e w' ⟨rfl, rfl⟩)
        go_ret2
        exact ⟨⟨_, by rw [HV.out]; rfl, fun _ => rfl, fun e => absurd (by rw [← HV.out]; exact e) HNZ.out⟩, hBw⟩
    · have HV := hid (HB.out.seen.done hlt)
      have hie : i = es.length := by omega
      have HI := hid hie
      clear hie
      go_wp2
      go_ret2
      refine ⟨⟨_, by rw [HV.out]; rfl, fun e => absurd HV.out e, fun _ => ⟨T, ?_, ?_⟩⟩, HB.out.below⟩
      · show TreeAt wr w.heap.size (.slice a4 i c4) es.length T
        rw [← HI.out]
        exact HB.out.tree
      · rw [← HI.out]
        exact HB.out.is
set_option maxRecDepth 100000 in
set_option maxHeartbeats 1000000 in
theorem implFault (es : List ElemD) (v : Value) (w : World) (hl : SmallE 1048576 es) (hk : OkE es) (ha : ElemsAt w 0 v es) (he : Esc.Ent w) (hw : 2 < w.heap.size) :
    Calls Tryz.prog 24 #[v] w fun e w' => e = .returned (.int .i64 (fault es)) ∧ Below w.heap.size w w' := by
  have HC := hid (elemTree es v w hl hk ha he hw)
  obtain ⟨a, cap, rfl⟩ := ha.slice
  clear ha hk hl he
  go_enter Tryz.func24, Tryz.ntmps24
  go_wp2_with (go_at_call 50; refine HC.out.mono ?_; rintro e w' ⟨⟨v', rfl, _, _⟩, hb⟩)
  go_ret
  exact ⟨rfl, hb⟩
end Tr
end Go.Proofs.YtgghigfflpbjiaaGreatDoor
