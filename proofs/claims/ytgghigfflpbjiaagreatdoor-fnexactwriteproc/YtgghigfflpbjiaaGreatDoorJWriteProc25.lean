/- Laid together: WrJ, WrK. -/
import Derived.Test.YtgghigfflpbjiaaGreatDoorJWriteProc42
import Derived.RegionTactic
import Derived.BigRegion
/- An element with all below it, as the program writes it. Condition: the table of entities lies as its initialiser lays it. -/
namespace Go.Proofs.YtgghigfflpbjiaaGreatDoor
open Go.RowKit
set_option linter.unusedVariables false
namespace Tr
/-- All that is read of a tree with nothing wrong, in a world. -/
structure Laid (w : World) (es : List ElemD) (v : Value) (T : Nat → Br) : Prop where
  good : Good es
  tree : ∃ B, TreeAt w B v es.length T
  tag : ∀ j (h : j < es.length), (T j).tag = es[j].tag
  par : ∀ j (h : j < es.length), (T j).par = es[j].parent
  va : ∀ j (h : j < es.length), AttrsAt w 0 (T j).va es[j].attrs
  kids : ∀ j, j < es.length → (T j).kids = kidsA es j
  ent : Esc.Ent w
  pos : 2 < w.heap.size
theorem Laid.below {w w' : World} {es : List ElemD} {v : Value} {T : Nat → Br} (h : Laid w es v T) (hb : Below w.heap.size w w') : Laid w' es v T := by
  obtain ⟨B, ht⟩ := h.tree
  exact ⟨h.good, ⟨B, ht.below hb⟩, h.tag, h.par, fun j hj => (h.va j hj).below hb, h.kids, Esc.Ent.below h.ent hb h.pos, Nat.lt_of_lt_of_le h.pos hb.size⟩
theorem ok_leaf {es : List ElemD} {f k : Nat} (h : (kidsA es k).length = 0) (hm : (markK es k).length ≤ 600) : okF es (f + 1) k = true ∧ wrF es (f + 1) k = markK es k := by
  have e := List.length_eq_zero_iff.1 h
  exact ⟨by rw [okF, e]; simp [hm], wr_leaf (by rw [e]; rfl)⟩
theorem ok_long {es : List ElemD} {f k : Nat} (hm : ¬ (markK es k).length ≤ 600) : okF es (f + 1) k = false := by rw [okF]; simp [hm]
theorem ok_kid {es : List ElemD} {f k c : Nat} (hc : c ∈ kidsA es k) (h : okF es f c = false) : okF es (f + 1) k = false := by
  rw [okF, Bool.and_eq_false_iff]
  right
  rw [List.all_eq_false]
  exact ⟨c, hc, by simp [h]⟩
theorem ok_node {es : List ElemD} {f k : Nat} (hm : (markK es k).length ≤ 600) (h : ∀ c ∈ kidsA es k, okF es f c = true) : okF es (f + 1) k = true := by
  rw [okF, Bool.and_eq_true, List.all_eq_true]
  exact ⟨by simpa using hm, h⟩
theorem mk_size (l : List UInt8) : (ByteArray.mk l.toArray).size = l.length := by simp [ByteArray.size]
set_option maxRecDepth 100000 in
set_option maxHeartbeats 8000000 in
theorem writeElem (es : List ElemD) (v : Value) (T : Nat → Br) (W0 : World) (hL : Laid W0 es v T) (b : Nat) (hb0 : W0.heap.size ≤ b) : ∀ (f k : Nat) (acc : List UInt8) (w : World), k < es.length → es.length - k ≤ f → f ≤ 40 → acc.length + f * 3000000 ≤ 200000000 → Below W0.heap.size W0 w → Lib.IsBuilderF 99 5 W0.heap.size b (Lib.byteCells acc) w →
    Calls Tryz.prog 57 #[.pointer (some ⟨b, 0, none⟩), v, .int .i64 (k : Int)] w fun e w' => e = .returned (.bool (okF es f k)) ∧ (okF es f k = true → Lib.IsBuilderF 99 5 W0.heap.size b (Lib.byteCells (acc ++ wrF es f k)) w') ∧ Below W0.heap.size w w' ∧ Lib.OthersKept 5 (some b) w w'
  | 0, k, acc, w, hk, hf, _, _, _, _ => by omega
  | f + 1, k, acc, w, hk, hf, hf40, hacc, hbw, hI => by
    have HIH := hid (fun c acc w (h1 : c < es.length) (h2 : es.length - c ≤ f) (h3 : acc.length + f * 3000000 ≤ 200000000) (h4 : Below W0.heap.size W0 w) (h5 : Lib.IsBuilderF 99 5 W0.heap.size b (Lib.byteCells acc) w) => writeElem es v T W0 hL b hb0 f c acc w h1 h2 (by omega) h3 h4 h5)
    have hLw := hL.below hbw
    obtain ⟨Bt, hT⟩ := hLw.tree
    obtain ⟨a4, c4, rfl⟩ := hT.slice
    obtain ⟨g, rfl, _, hBg, hg, d0, d1, d2, d3, d4, d5, _⟩ := hT.at hk
    have hva := hLw.va k hk
    have hkids := hT.kids k hk
    have hin0 : Ints.IntsAt W0 (T k).kv (ints (kidsA es k)) := by
      obtain ⟨B1, hT1⟩ := hL.tree
      have h := hT1.kids k hk
      rw [hL.kids k hk, kidVals_eq, ← ints_len] at h
      exact Ints.IntsAt.of h
    have HIN0 := hid hin0
    clear hin0
    rw [hLw.tag k hk] at d0
    rw [hLw.par k hk] at d1
    rw [hLw.kids k hk] at hkids
    generalize (T k).va = va at *
    generalize (T k).kv = kv at *
    obtain ⟨a3, c3, rfl⟩ := hva.slice
    rw [kidVals_eq, ← ints_len] at hkids
    have HIN := hid (Ints.IntsAt.of hkids)
    rw [ints_len] at hkids
    obtain ⟨x5, y5, rfl⟩ := Ints.owns_slice hkids
    have HVA := hid hva
    have HL := hid hL
    have HI := hid hI
    have hG := hL.good
    have hle := hG.le
    have hml := mark_len hG hk
    have hkl : (kidsA es k).length ≤ 40 := by have := kidsN_le (es := es) (n := es.length) (j := k); unfold kidsA; omega
    have hz := Esc.blt hI
    have hbsz := hbw.size
    have q0 : (k : Int) < (es.length : Int) := by omega
    have HG := hid hG
    clear hva hkids d3 d4 hT hLw hL hI hG
    go_enter Tryz.func57, Tryz.ntmps57
    go_wp2
    go_region
    have hB1 : Below w.heap.size w (w.alloc (.cells #[.string es[k].tag, .int .i64 es[k].parent, .slice a3 es[k].attrs.length c3] 53)).drew := ((Below.refl _ w).alloc (Nat.le_refl _) _).drew
    have mh : (w.alloc (.cells #[.string es[k].tag, .int .i64 es[k].parent, .slice a3 es[k].attrs.length c3] 53)).drew.heap[w.heap.size]? = some (.cells #[.string es[k].tag, .int .i64 es[k].parent, .slice a3 es[k].attrs.length c3] 53 (0, 0)) := World.alloc_heap_new w _
    have m0 : (w.alloc (.cells #[.string es[k].tag, .int .i64 es[k].parent, .slice a3 es[k].attrs.length c3] 53)).drew.cell? ⟨w.heap.size, 0, none⟩ = some (.string es[k].tag) := by go_simp
    have m1 : (w.alloc (.cells #[.string es[k].tag, .int .i64 es[k].parent, .slice a3 es[k].attrs.length c3] 53)).drew.cell? ⟨w.heap.size, 1, none⟩ = some (.int .i64 es[k].parent) := by go_simp
    have m2 : (w.alloc (.cells #[.string es[k].tag, .int .i64 es[k].parent, .slice a3 es[k].attrs.length c3] 53)).drew.cell? ⟨w.heap.size, 2, none⟩ = some (.slice a3 es[k].attrs.length c3) := by go_simp
    have hs1 : (w.alloc (.cells #[.string es[k].tag, .int .i64 es[k].parent, .slice a3 es[k].attrs.length c3] 53)).drew.heap.size = w.heap.size + 1 := by simp
    generalize (w.alloc (.cells #[.string es[k].tag, .int .i64 es[k].parent, .slice a3 es[k].attrs.length c3] 53)).drew = w1 at *
    have hbw1 : Below W0.heap.size W0 w1 := hbw.trans (hB1.mono hbsz)
    have hL1 := HL.out.below hbw1
    have HBG := hid (fun cl => beginOf 0 es[k] (.slice a3 es[k].attrs.length c3) cl w1 (HVA.out.below hB1) hL1.ent hL1.pos (by rw [← len_size']; exact nf_len (HG.out.tag k hk)) (HG.out.len k hk) (HG.out.attrs hk))
    have HI1 := hid (isb_below HI.out hB1)
    have ht8 : es[k].tag.size ≤ 8 := by rw [← len_size']; exact nf_len (HG.out.tag k hk)
    have hEJ := EJ_eq hk
    have hcl : decide ((kidsA es k).length = 0) = (kidsA es k).isEmpty := by
      cases h : kidsA es k <;> simp
    have HMK : Hid (∀ cl, cl = (kidsA es k).isEmpty → markB es[k] cl = markK es k) := hid (fun cl h => by unfold markK; rw [hEJ, h])
    clear hL1 hEJ d0 d1 d2 d5
    by_cases hk0 : (kidsA es k).length = 0
    · have b1 : (((kidsA es k).length : Int) == 0) = true := beq_iff_eq.2 (by omega)
      have HM1 := hid (HBG.out true)
      rw [HMK.out true (by rw [← hcl]; simp [hk0])] at HM1
      have HK0 := hid hk0
      clear hcl hk0 HBG
      by_cases h6 : (markK es k).length ≤ 600
      · have HOK := hid (ok_leaf (f := f) HK0.out h6)
        generalize markK es k = mk at *
        have b2 : ¬ (600 : Int) < (mk.length : Int) := by omega
        have hmz : (ByteArray.mk mk.toArray).size = mk.length := by simp [ByteArray.size]
        go_wp2_with fail
        refine HM1.out.mono ?_
        rintro e w2 ⟨rfl, hb2⟩
        have HI2 := hid (isb_below HI1.out hb2)
        have hz2 := hb2.size
        go_wp2_with fail
        refine (Bld.writeString W0.heap.size b (Lib.byteCells acc) ⟨mk.toArray⟩ _ HI2.out (by rw [Lib.byteCells_length, hmz]; omega) (by omega)).mono ?_
        rintro e w3 ⟨rfl, hI3, hb3, hk3⟩
        have HI3 : Hid (Lib.IsBuilderF 99 5 W0.heap.size b (Lib.byteCells (acc ++ mk)) w3) := hid (by
          have h : Lib.IsBuilderF 99 5 W0.heap.size b (Lib.byteCells acc ++ Lib.strCells ⟨mk.toArray⟩) w3 := .inr hI3
          rw [cells_app] at h
          exact h)
        have hBf : Below W0.heap.size w w3 := (hB1.mono hbsz).trans ((hb2.mono (by omega)).trans hb3)
        have hOf : Lib.OthersKept 5 (some b) w w3 := ((others_below hB1).trans (others_below hb2)).trans hk3
        clear hI3 hb3 hk3
        go_wp2
        go_ret
        exact ⟨by rw [HOK.out.1]; rfl, fun _ => by rw [HOK.out.2]; exact HI3.out, hBf, hOf⟩
      · have HOK := hid (ok_long (f := f) h6)
        generalize markK es k = mk at *
        have b2 : (600 : Int) < (mk.length : Int) := by omega
        go_wp2_with fail
        refine HM1.out.mono ?_
        rintro e w2 ⟨rfl, hb2⟩
        have hBf : Below W0.heap.size w w2 := (hB1.mono hbsz).trans (hb2.mono (by omega))
        have hOf : Lib.OthersKept 5 (some b) w w2 := (others_below hB1).trans (others_below hb2)
        go_wp2
        go_ret
        exact ⟨by rw [HOK.out]; rfl, (fun h => by rw [HOK.out] at h; cases h), hBf, hOf⟩
    · have b1 : (((kidsA es k).length : Int) == 0) = false := beq_eq_false_iff_ne.2 (by omega)
      have HM1 := hid (HBG.out false)
      rw [HMK.out false (by rw [← hcl]; simp [hk0])] at HM1
      have HNE : Hid ((kidsA es k).isEmpty = false) := hid (by rw [← hcl]; simp [hk0])
      clear hcl hk0 HBG
      by_cases h6 : (markK es k).length ≤ 600
      · have H6 := hid h6
        have HWN := hid (wr_node (f := f) HNE.out)
        rw [EJ_eq hk] at HWN
        have HKL := hid (fun m => wr_kids_len HG.out f (k := k) (m := m))
        have HKM : Hid (∀ c ∈ kidsA es k, k < c ∧ c < es.length) := hid (fun c hc => kid_gt HG.out hc)
        have HOKN : Hid ((∀ c ∈ kidsA es k, okF es f c = true) → okF es (f + 1) k = true) := hid (ok_node h6)
        have HOKB : Hid (∀ c ∈ kidsA es k, okF es f c = false → okF es (f + 1) k = false) := hid (fun c hc h => ok_kid hc h)
        have hl40 : f * 61400 ≤ 2456000 := by omega
        generalize kidsA es k = ks at *
        generalize markK es k = mk at *
        have b2 : ¬ (600 : Int) < (mk.length : Int) := by omega
        have hmz : (ByteArray.mk mk.toArray).size = mk.length := by simp [ByteArray.size]
        go_wp2_with fail
        refine HM1.out.mono ?_
        rintro e w2 ⟨rfl, hb2⟩
        have HI2 := hid (isb_below HI1.out hb2)
        have hz2 := hb2.size
        go_wp2_with fail
        refine (Bld.writeString W0.heap.size b (Lib.byteCells acc) ⟨mk.toArray⟩ _ HI2.out (by rw [Lib.byteCells_length, hmz]; omega) (by omega)).mono ?_
        rintro e w3 ⟨rfl, hI3, hb3, hk3⟩
        have HI3 : Hid (Lib.IsBuilderF 99 5 W0.heap.size b (Lib.byteCells (acc ++ mk)) w3) := hid (by
          have h : Lib.IsBuilderF 99 5 W0.heap.size b (Lib.byteCells acc ++ Lib.strCells ⟨mk.toArray⟩) w3 := .inr hI3
          rw [cells_app] at h
          exact h)
        have hBf : Below W0.heap.size w w3 := (hB1.mono hbsz).trans ((hb2.mono (by omega)).trans hb3)
        have hOf : Lib.OthersKept 5 (some b) w w3 := ((others_below hB1).trans (others_below hb2)).trans hk3
        have mh2 : w2.heap[w.heap.size]? = some (.cells #[.string es[k].tag, .int .i64 es[k].parent, .slice a3 es[k].attrs.length c3] 53 (0, 0)) := by rw [hb2.block _ (by omega)]; exact mh
        have mh3 := others_heap hk3 mh2 (by omega) (by decide)
        have HINw : Hid (∀ wx, Below W0.heap.size w wx → Ints.IntsAt wx (.slice x5 ks.length y5) (ints ks)) := hid (fun wx hx => HIN0.out.below (hbw.trans hx))
        clear hI3 hb3 hk3 mh2
        go_wp2
        go_loopw [11, 38] (fun _ i wr => ∃ (j : Nat), i = .int .i64 j ∧ j ≤ ks.length ∧ Hid (∀ c ∈ ks.take j, okF es f c = true) ∧ Hid (Lib.IsBuilderF 99 5 W0.heap.size b (Lib.byteCells (acc ++ mk ++ (ks.take j).flatMap (wrF es f))) wr) ∧ Below W0.heap.size w wr ∧ Lib.OthersKept 5 (some b) w3 wr) (fun _ i _ => ks.length - (intOf i).toNat)
        case atStart => exact ⟨0, rfl, Nat.zero_le _, hid (by simp), hid (by simpa using HI3.out), hBf, Lib.OthersKept.refl _ _ _⟩
        case round =>
          obtain ⟨j, rfl, hj, HALL, HJ, hBr, hOr⟩ := hrel
          have hzr := Esc.blt HJ.out
          by_cases hlt : j < ks.length
          · obtain ⟨g3, rfl, hg3, n0⟩ := (HINw.out wr hBr).at (i := j) (by rw [ints_len]; exact hlt)
            have e1 : (ints ks)[j]'(by rw [ints_len]; exact hlt) = (ks[j] : Int) := by simp [ints]
            rw [e1] at n0
            have hmem := List.getElem_mem hlt
            have hck := HKM.out ks[j] hmem
            have q1 : (j : Int) < (ks.length : Int) := by omega
            have hkj := HKL.out j
            have HR := hid (HIH.out ks[j] (acc ++ mk ++ (ks.take j).flatMap (wrF es f)) wr hck.2 (by omega) (by simp only [List.length_append]; omega) (hbw.trans hBr) HJ.out)
            have hsnoc : ks.take (j + 1) = ks.take j ++ [ks[j]] := List.take_succ_eq_append_getElem hlt
            have HSN := hid hsnoc
            clear hsnoc e1
            cases hokc : okF es f ks[j]
            · have HBAD := hid (HOKB.out ks[j] hmem hokc)
              rw [hokc] at HR
              clear hokc
              generalize ks[j] = c at *
              go_wp2_with fail
              refine HR.out.mono ?_
              rintro e w5 ⟨rfl, _, hb5, hk5⟩
              go_wp2
              go_ret
              exact ⟨by rw [HBAD.out]; rfl, (fun h => by rw [HBAD.out] at h; cases h), hBr.trans hb5, (hOf.trans hOr).trans hk5⟩
            · have HALL2 : Hid (∀ c ∈ ks.take (j + 1), okF es f c = true) := hid (fun c hc => by
                rw [HSN.out] at hc
                rcases List.mem_append.1 hc with h | h
                · exact HALL.out c h
                · obtain rfl := List.mem_singleton.1 h
                  exact hokc)
              rw [hokc] at HR
              clear hokc
              generalize hcc : ks[j] = c at *
              have HCE : Hid (acc ++ mk ++ (ks.take j).flatMap (wrF es f) ++ wrF es f c = acc ++ mk ++ (ks.take (j + 1)).flatMap (wrF es f)) := hid (by rw [HSN.out, List.flatMap_append]; simp)
              clear hcc
              go_wp2_with fail
              refine HR.out.mono ?_
              rintro e w5 ⟨rfl, hI5, hb5, hk5⟩
              have HI5 := hid (hI5 trivial)
              rw [HCE.out] at HI5
              clear hI5
              go_wp2
              exact ⟨⟨j + 1, by simp, by omega, HALL2, HI5, hBr.trans hb5, hOr.trans hk5⟩, by simp [intOf]; omega⟩
          · have htk : ks.take j = ks := List.take_of_length_le (by omega)
            rw [htk] at HALL HJ
            have HOK := hid (HOKN.out HALL.out)
            have hkj := HKL.out ks.length
            rw [List.take_length] at hkj
            have mhr := others_heap hOr mh3 (by omega) (by decide)
            have y0 : wr.cell? ⟨w.heap.size, 0, none⟩ = some (.string es[k].tag) := by simp [World.cell?, mhr]
            have hzw : w.heap.size < wr.heap.size := (Array.getElem?_eq_some_iff.1 mhr).1
            have HFIN : Hid (acc ++ mk ++ ks.flatMap (wrF es f) ++ ([60, 47] ++ es[k].tag.data.toList ++ [62]) = acc ++ wrF es (f + 1) k) := hid (by rw [HWN.out]; simp [endB])
            have hez : (ByteArray.mk ([60, 47] ++ es[k].tag.data.toList ++ [62]).toArray).size ≤ 11 := by
              rw [mk_size]
              simp only [List.length_append, List.length_cons, List.length_nil, len_size']
              omega
            clear htk mhr
            go_wp2_with (go_at_call 90; refine (endOf es[k].tag _ ht8).mono ?_; rintro e w' ⟨rfl, rfl⟩)
            refine (Bld.writeString W0.heap.size b (Lib.byteCells (acc ++ mk ++ ks.flatMap (wrF es f))) _ _ HJ.out ?_ (by have := hBr.size; omega)).mono ?_
            · have hez2 : (ByteArray.mk (60 :: 47 :: (es[k].tag.data.toList ++ [62])).toArray).size ≤ 11 := hez
              rw [Lib.byteCells_length]
              simp only [List.length_append]
              omega
            rintro e w7 ⟨rfl, hI7, hb7, hk7⟩
            have HI7 : Hid (Lib.IsBuilderF 99 5 W0.heap.size b (Lib.byteCells (acc ++ wrF es (f + 1) k)) w7) := hid (by
              have h : Lib.IsBuilderF 99 5 W0.heap.size b (Lib.byteCells (acc ++ mk ++ ks.flatMap (wrF es f)) ++ Lib.strCells ⟨([60, 47] ++ es[k].tag.data.toList ++ [62]).toArray⟩) w7 := .inr hI7
              rw [cells_app] at h
              rw [← HFIN.out]
              exact h)
            clear hI7
            go_wp2
            go_ret
            exact ⟨by rw [HOK.out]; rfl, fun _ => HI7.out, hBr.trans hb7, (hOf.trans hOr).trans hk7⟩
      · have HOK := hid (ok_long (f := f) h6)
        generalize markK es k = mk at *
        have b2 : (600 : Int) < (mk.length : Int) := by omega
        go_wp2_with fail
        refine HM1.out.mono ?_
        rintro e w2 ⟨rfl, hb2⟩
        have hBf : Below W0.heap.size w w2 := (hB1.mono hbsz).trans (hb2.mono (by omega))
        have hOf : Lib.OthersKept 5 (some b) w w2 := (others_below hB1).trans (others_below hb2)
        go_wp2
        go_ret
        exact ⟨by rw [HOK.out]; rfl, (fun h => by rw [HOK.out] at h; cases h), hBf, hOf⟩
end Tr
end Go.Proofs.YtgghigfflpbjiaaGreatDoor
/- WriteTree of the program. Condition: the table of entities lies as its initialiser lays it. -/
namespace Go.Proofs.YtgghigfflpbjiaaGreatDoor
open Go.RowKit
set_option linter.unusedVariables false
namespace Tr
theorem fresh1 (w : World) : Lib.IsBuilderF 99 5 w.heap.size w.heap.size (Lib.byteCells []) (w.alloc (.cells #[.pointer none, .slice none 0 0] 99)) :=
  Lib.IsBuilderF.of (Lib.fresh_isBuilder 99 5 w)
set_option maxRecDepth 100000 in
set_option maxHeartbeats 2000000 in
theorem implWriteTree (es : List ElemD) (v : Value) (w : World) (hl : SmallE 1048576 es) (hk : OkE es) (ha : ElemsAt w 0 v es) (he : Esc.Ent w) (hw : 2 < w.heap.size) :
    Calls Tryz.prog 32 #[v] w fun e w' => e = .returned (.agg #[.int .i64 (wcode es), .string ⟨(wtext es).toArray⟩]) ∧ Below w.heap.size w w' := by
  obtain ⟨a, cap, rfl⟩ := ha.slice
  have hlen := hl.1
  have hb0 : Below w.heap.size w (w.alloc (.cells #[.int .i64 0, .string { data := #[] }] 36)) := (Below.refl _ w).alloc (Nat.le_refl _) _
  have HF := hid (elemTree es _ (w.alloc (.cells #[.int .i64 0, .string { data := #[] }] 36)) hl hk (ha.below hb0) (Esc.Ent.below he hb0 hw) (by simp; omega))
  have HE := hid (Esc.Ent.below he hb0 hw)
  clear ha hl hk he
  go_enter Tryz.func32, Tryz.ntmps32
  go_wp2_with fail
  refine HF.out.mono ?_
  rintro e w1 ⟨⟨v1, rfl, hv1, hv2⟩, hb1⟩
  have B1 : Below w.heap.size w w1 := hb0.trans (hb1.mono (by simp))
  have HB1 := hid hb1
  simp only [World.size_alloc] at hb1
  have l1 : w.heap.size < w1.heap.size := by have := hb1.size; simp at this; omega
  have r0 := kept_cell hb1 (b := w.heap.size) (o := 0) (v := .int .i64 0) (by omega) (by go_simp)
  have r1 := kept_cell hb1 (b := w.heap.size) (o := 1) (v := .string { data := #[] }) (by omega) (by go_simp)
  have f0 := kept_free hb1 (b := w.heap.size) (o := 0) (by omega) (by go_simp)
  have f1 := kept_free hb1 (b := w.heap.size) (o := 1) (by omega) (by go_simp)
  by_cases hf : fault es = 0
  · have b1 : (fault es != 0) = false := by simp [hf]
    obtain ⟨T, hT, hI⟩ := hv2 hf
    have hG := good_of hf
    have HLD : Hid (Laid w1 es v1 T) := hid ⟨hG, ⟨_, hT⟩, fun j h => hI.tag j h h, fun j h => hI.par j h h, fun j h => (hI.va j h h).below HB1.out, fun j h => hI.kids j h, Esc.Ent.below HE.out HB1.out (by simp; omega), by have := HB1.out.size; simp at this; omega⟩
    have HFZ := hid hf
    have hle := hG.le
    have hpos := hG.pos
    have HWR := hid (writeElem es v1 T w1 HLD.out w1.heap.size (Nat.le_refl _) es.length 0 [] (w1.alloc (.cells #[.pointer none, .slice none 0 0] 99)) hpos (by omega) hle (by simp only [List.length_nil]; omega) ((Below.refl _ w1).alloc (Nat.le_refl _) _) (fresh1 w1))
    have hwl := wr_len hG es.length hpos
    have hBa : Below w1.heap.size w1 (w1.alloc (.cells #[.pointer none, .slice none 0 0] 99)) := (Below.refl _ w1).alloc (Nat.le_refl _) _
    obtain ⟨at4, ct4, rfl⟩ := hT.slice
    clear hT hI hv1 hv2 hf hG
    cases hok : okF es es.length 0
    · have HV := hid (w_many HFZ.out (fun h => by rw [hok] at h; exact absurd h.1 (by decide)))
      rw [hok] at HWR
      clear hok
      go_wp2_with (go_at_call 57; refine HWR.out.mono ?_; rintro e w3 ⟨rfl, _, hb3, _⟩; have l3 : w.heap.size < w3.heap.size := by {have := (hBa.trans hb3).size; omega}; have u0 := kept_cell (hBa.trans hb3) l1 r0; have u1 := kept_cell (hBa.trans hb3) l1 r1; have x0 := kept_free (hBa.trans hb3) l1 f0; have x1 := kept_free (hBa.trans hb3) l1 f1; have B3 := B1.trans ((hBa.trans hb3).mono B1.size))
      exact bodyPost_ret (v := .agg #[.int .i64 2, .string { data := #[] }]) (by simp [results, Tryz.results32, go_sem, u0, u1]) rfl ⟨ret_txt (s := []) HV.out.1.symm HV.out.2.symm, setB (setB B3 (Nat.le_refl _) _) (Nat.le_refl _) _⟩
    · have HO := hid hok
      rw [hok] at HWR
      clear hok
      by_cases h15 : (wrF es es.length 0).length ≤ 1500
      · have HV := hid (w_ok HFZ.out HO.out h15)
        generalize wrF es es.length 0 = tx at *
        have b2 : ¬ (1500 : Int) < (tx.length : Int) := by omega
        go_wp2_with (first
          | (go_at_call 57; refine HWR.out.mono ?_; rintro e w3 ⟨rfl, hI3, hb3, _⟩; have HI3 := hid (hI3 trivial); rw [List.nil_append] at HI3; clear hI3; have hz3 := (hBa.trans hb3).size; have l3 : w.heap.size < w3.heap.size := by {omega}; have u0 := kept_cell (hBa.trans hb3) l1 r0; have u1 := kept_cell (hBa.trans hb3) l1 r1; have x0 := kept_free (hBa.trans hb3) l1 f0; have x1 := kept_free (hBa.trans hb3) l1 f1; have B3 := B1.trans ((hBa.trans hb3).mono B1.size))
          | (go_at_call 58; refine (Tryz.Builder_Len_f _ _ _ _ HI3.out).mono ?_; rintro e w4 ⟨rfl, rfl⟩; rw [Lib.byteCells_length])
          | (go_at_call 59; refine (Tryz.Builder_String_any_k _ _ _ _ HI3.out hz3).mono ?_; rintro e w4 ⟨rfl, _, hb4, _⟩; have l4 : w.heap.size < w4.heap.size := by {have := hb4.size; omega}; have u40 := kept_cell hb4 l1 u0; have u41 := kept_cell hb4 l1 u1; have x40 := kept_free hb4 l1 x0; have x41 := kept_free hb4 l1 x1; have B4 := B3.trans (hb4.mono B1.size)))
        exact bodyPost_ret (v := .agg #[.int .i64 0, .string ⟨tx.toArray⟩]) (by simp [results, Tryz.results32, go_sem, u40, u41]) rfl ⟨ret_txt HV.out.1.symm HV.out.2.symm, setB (setB B4 (Nat.le_refl _) _) (Nat.le_refl _) _⟩
      · have HV := hid (w_many HFZ.out (fun h => h15 h.2))
        generalize wrF es es.length 0 = tx at *
        have b2 : (1500 : Int) < (tx.length : Int) := by omega
        go_wp2_with (first
          | (go_at_call 57; refine HWR.out.mono ?_; rintro e w3 ⟨rfl, hI3, hb3, _⟩; have HI3 := hid (hI3 trivial); rw [List.nil_append] at HI3; clear hI3; have hz3 := (hBa.trans hb3).size; have l3 : w.heap.size < w3.heap.size := by {omega}; have u0 := kept_cell (hBa.trans hb3) l1 r0; have u1 := kept_cell (hBa.trans hb3) l1 r1; have x0 := kept_free (hBa.trans hb3) l1 f0; have x1 := kept_free (hBa.trans hb3) l1 f1; have B3 := B1.trans ((hBa.trans hb3).mono B1.size))
          | (go_at_call 58; refine (Tryz.Builder_Len_f _ _ _ _ HI3.out).mono ?_; rintro e w4 ⟨rfl, rfl⟩; rw [Lib.byteCells_length]))
        exact bodyPost_ret (v := .agg #[.int .i64 2, .string { data := #[] }]) (by simp [results, Tryz.results32, go_sem, u0, u1]) rfl ⟨ret_txt (s := []) HV.out.1.symm HV.out.2.symm, setB (setB B3 (Nat.le_refl _) _) (Nat.le_refl _) _⟩
  · have HV := hid (w_fault hf)
    have b1 : (fault es != 0) = true := by simpa using hf
    obtain rfl := hv1 hf
    clear hf hv1 hv2
    go_wp2
    exact bodyPost_ret (v := .agg #[.int .i64 (fault es), .string { data := #[] }]) (by simp [results, Tryz.results32, go_sem, r0, r1]) rfl ⟨ret_txt (s := []) HV.out.1.symm HV.out.2.symm, setB (setB B1 (Nat.le_refl _) _) (Nat.le_refl _) _⟩
end Tr
end Go.Proofs.YtgghigfflpbjiaaGreatDoor
