/- Laid together: TrB, TrC. -/
import Derived.Test.YtahkpgffoiaeiaaGreatDoorJProcOf14
import Derived.Deep.OwnRows
import Derived.Laws.MakeOwn
/- The law's measure of elements, and its copies of them. -/
namespace Go.Proofs.YtahkpgffoiaeiaaGreatDoor
open Go.RowKit
set_option linter.unusedVariables false
namespace Tr
set_option maxRecDepth 100000 in
set_option maxHeartbeats 400000 in
theorem szElem (B : Nat) (x : ElemD) (va : Value) (n : Int) (w : World) (h0 : 0 ≤ n) (hn : n ≤ 1048576) (h1 : x.tag.size ≤ maxLen) (h2 : OkA x.attrs) (h3 : x.attrs.length ≤ maxLen) (ha : AttrsAt w B va x.attrs) :
    Calls Tryz.prog 13 #[.agg #[.string x.tag, .int .i64 x.parent, va], .int .i64 n] w fun e w' => (∃ r : Int, e = .returned (.int .i64 r) ∧ -1 ≤ r ∧ r ≤ n ∧ (0 ≤ r → (x.tag.size : Int) ≤ n ∧ SmallA n x.attrs)) ∧ Below w.heap.size w w' := by
  unfold maxLen at h1
  obtain ⟨a, cap, rfl⟩ := ha.slice
  have HA : Hid (AttrsAt w B (.slice a x.attrs.length cap) x.attrs) := ha
  have HK : Hid (OkA x.attrs) := h2
  clear ha h2
  by_cases q1 : n - (x.tag.size : Int) < 0
  · go_enter Tryz.func13, Tryz.ntmps13
    go_wp2
    go_ret
    exact ⟨⟨-1, rfl, by omega, by omega, by omega⟩, (Below.refl _ _).alloc (Nat.le_refl _) _⟩
  · go_enter Tryz.func13, Tryz.ntmps13
    go_wp2_with fail
    have hB : Below w.heap.size w (w.alloc (.cells #[.string x.tag, .int .i64 x.parent, .slice a x.attrs.length cap] 38)) := (Below.refl _ w).alloc (Nat.le_refl _) _
    refine (szAttrS B x.attrs _ (n - x.tag.size) _ (by omega) (by omega) h3 HK.out (HA.out.below hB)).mono ?_
    rintro e w1 ⟨⟨r, rfl, hr1, hr2, hr3⟩, hb1⟩
    have hBB := hB.trans (hb1.mono (by simp))
    by_cases hr : r < 0
    · go_wp2
      go_ret
      exact ⟨⟨-1, rfl, by omega, by omega, by omega⟩, hBB⟩
    · go_wp2
      go_ret
      refine ⟨⟨r, rfl, by omega, by omega, fun h => ⟨by omega, ?_⟩⟩, hBB⟩
      obtain ⟨s1, s2⟩ := hr3 h
      exact ⟨by omega, fun y hy => ⟨by have := (s2 y hy).1; omega, by have := (s2 y hy).2; omega⟩⟩
set_option maxRecDepth 100000 in
set_option maxHeartbeats 1000000 in
theorem szElemS (B : Nat) (es : List ElemD) (v : Value) (n : Int) (w : World) (h0 : 0 ≤ n) (hn : n ≤ 1048576) (hl : es.length ≤ maxLen) (hk : OkE es) (ha : ElemsAt w B v es) :
    Calls Tryz.prog 4 #[v, .int .i64 n] w fun e w' => (∃ r : Int, e = .returned (.int .i64 r) ∧ -1 ≤ r ∧ r ≤ n ∧ (0 ≤ r → SmallE n es)) ∧ Below w.heap.size w w' := by
  obtain ⟨a, cap, rfl⟩ := ha.slice
  have HA : Hid (ElemsAt w B (.slice a es.length cap) es) := ha
  have HK : Hid (OkE es) := hk
  clear ha hk
  unfold maxLen at hl
  by_cases q1 : n - (es.length : Int) < 0
  · go_enter Tryz.func4, Tryz.ntmps4
    go_wp2
    go_ret
    exact ⟨⟨-1, rfl, by omega, by omega, by omega⟩, Below.refl _ _⟩
  · go_enter Tryz.func4, Tryz.ntmps4
    go_wp2
    go_loopw [1, 5] (fun m i wr => ∃ (k : Nat) (z : Int), i = .int .i64 k ∧ m = .int .i64 z ∧ 0 ≤ z ∧ z ≤ n ∧ k ≤ es.length ∧ Hid (∀ j (h : j < es.length), j < k → (es[j].tag.size : Int) ≤ n ∧ SmallA n es[j].attrs) ∧ Below w.heap.size w wr) (fun _ i _ => es.length - (intOf i).toNat)
    case atStart => exact ⟨0, _, rfl, rfl, by omega, by omega, Nat.zero_le _, fun j _ h => by omega, Below.refl _ _⟩
    case round =>
      obtain ⟨k, z, rfl, rfl, hz0, hzn, hkl, HJ, hbel⟩ := hrel
      by_cases hlt : k < es.length
      · obtain ⟨g, o, va, rfl, hg, c0, c1, c2, hva⟩ := (HA.out.below hbel).at hlt
        obtain ⟨a2, cap2, rfl⟩ := hva.slice
        have HV : Hid (AttrsAt wr B (.slice a2 es[k].attrs.length cap2) es[k].attrs) := hva
        clear hva
        have hke := HK.out es[k] (List.getElem_mem hlt)
        have HKE : Hid (OkA es[k].attrs) := hke.2.1
        have hke1 := hke.1
        have hke2 := hke.2.2
        clear hke
        have q1 : (k : Int) < (es.length : Int) := by omega
        go_wp2_with fail
        refine (szElem B es[k] _ z _ hz0 (by omega) hke1 HKE.out hke2 HV.out).mono ?_
        rintro e w1 ⟨⟨r, rfl, hr1, hr2, hr3⟩, hb1⟩
        have hB := hbel.trans (hb1.mono hbel.size)
        by_cases hr : r < 0
        · go_wp2
          go_ret
          exact ⟨⟨-1, rfl, by omega, by omega, by omega⟩, hB⟩
        · have HJ2 : Hid (∀ j (h : j < es.length), j < k + 1 → (es[j].tag.size : Int) ≤ n ∧ SmallA n es[j].attrs) := hid (fun j h hj => by
            by_cases e : j = k
            · subst e
              obtain ⟨t1, s1, s2⟩ := hr3 (by omega)
              exact ⟨by omega, by omega, fun y hy => ⟨by have := (s2 y hy).1; omega, by have := (s2 y hy).2; omega⟩⟩
            · exact HJ.out j h (by omega))
          go_wp2
          exact ⟨⟨k + 1, r, by simp, rfl, by omega, by omega, by omega, HJ2, hB⟩, by simp [intOf]; omega⟩
      · have HJ2 : Hid (SmallE n es) := hid ⟨by omega, fun x hx => by
          obtain ⟨j, hj, rfl⟩ := List.getElem_of_mem hx
          exact HJ.out j hj (by omega)⟩
        go_wp2
        go_ret
        exact ⟨⟨z, rfl, by omega, by omega, fun _ => HJ2.out⟩, hbel⟩
/-! ### copies -/
theorem infoAttr : (Tryz.prog.info? 73).map (fun i => (i.zero, i.size, i.bytes)) = some (some (.agg #[.string { data := #[] }, .string { data := #[] }]), 2, 32) := by kernel_rfl
theorem infoElem : (Tryz.prog.info? 48).map (fun i => (i.zero, i.size, i.bytes)) = some (some (.agg #[.string { data := #[] }, .int .i64 0, .slice none 0 0]), 3, 48) := by kernel_rfl
theorem make_row {P : Program} {t e : TypeId} {z : Value} {sz bytes : Nat} (ht : P.underlying t = some (.slice e)) (hinfo : (P.info? e).map (fun i => (i.zero, i.size, i.bytes)) = some (some z, sz, bytes))
    (n : Nat) (hb : bytes * n ≤ 281474976710656) (hn : n ≤ 9223372036854775807) (w : World) :
    (Instr.makeSlice t (.int .i64 (n : Int)) (.int .i64 (n : Int))).run P w = .ok (.slice (some ⟨w.heap.size, 0, none⟩) n n) (w.alloc (.cells (madeCells z.cells (n * sz)) e)) := by
  cases hi : P.info? e with
  | none => rw [hi] at hinfo; cases hinfo
  | some i =>
    rw [hi] at hinfo
    simp only [Option.map_some, Option.some.injEq, Prod.mk.injEq] at hinfo
    obtain ⟨h1, h2, h3⟩ := hinfo
    have hb' : (i.bytes : Int) * (n : Int) ≤ 281474976710656 := by
      have h : ((i.bytes * n : Nat) : Int) ≤ 281474976710656 := by rw [h3]; omega
      rwa [Int.natCast_mul] at h
    have h := run_make (P := P) w t e i z ht hi h1 .i64 .i64 n n (by omega) (Int.le_refl _) hb' (by omega)
    rw [h2] at h
    simpa using h
theorem made_row (w : World) (z : Array Value) (n : Nat) (e : TypeId) : ∃ f, (w.alloc (.cells (madeCells z n) e)).rowIs w.heap.size e n f := by
  have h := World.rowIs_alloc w (madeCells z n) e (fun i => (madeCells z n)[i]!) (fun i hi => by simp [hi])
  rw [size_madeCells] at h
  exact ⟨_, h⟩
/-- A row of attrs that may be written into, between two blocks. -/
def AttrsOwn (w : World) (B C : Nat) (v : Value) (m : Nat) : Prop := ∃ g f, v = .slice (some ⟨g, 0, none⟩) m m ∧ B ≤ g ∧ g < C ∧ w.rowIs g 73 (m * 2) f
theorem AttrsOwn.kept {w w' : World} {B C m : Nat} {v : Value} (h : AttrsOwn w B C v m) (hb : ∀ g, B ≤ g → g < C → g < w.heap.size → w'.heap[g]? = w.heap[g]?) : AttrsOwn w' B C v m := by
  obtain ⟨g, f, rfl, h1, h2, h3⟩ := h
  exact ⟨g, f, rfl, h1, h2, h3.of_block (hb g h1 h2 h3.lt)⟩
theorem AttrsOwn.below {w w' : World} {B C m : Nat} {v : Value} (h : AttrsOwn w B C v m) (hb : Below w.heap.size w w') : AttrsOwn w' B C v m := h.kept (fun g _ _ hg => hb.block g hg)
theorem AttrsOwn.mono {w : World} {B B' C C' m : Nat} {v : Value} (h : AttrsOwn w B C v m) (hB : B' ≤ B) (hC : C ≤ C') : AttrsOwn w B' C' v m := by
  obtain ⟨g, f, rfl, h1, h2, h3⟩ := h
  exact ⟨g, f, rfl, Nat.le_trans hB h1, Nat.lt_of_lt_of_le h2 hC, h3⟩
theorem AttrsOwn.setBelow {w : World} {B C m b o : Nat} {v : Value} (h : AttrsOwn w B C v m) (hb : b < B) (x : Value) : AttrsOwn (w.setCell ⟨b, o, none⟩ x) B C v m :=
  h.kept (fun g hg _ _ => Below.heap_setCell _ _ _ _ (by dsimp only; omega))
set_option maxRecDepth 100000 in
set_option maxHeartbeats 400000 in
theorem toAttr (a : AttrD) (w : World) :
    Calls Tryz.prog 64 #[.agg #[.string a.name, .string a.value]] w fun e w' => e = .returned (.agg #[.string a.name, .string a.value]) ∧ Below w.heap.size w w' := by
  go_enter Tryz.func64, Tryz.ntmps64
  go_wp2
  exact bodyPost_ret (v := .agg #[.string a.name, .string a.value]) (by simp [results, Tryz.results64, go_sem]) rfl ⟨rfl, (((Below.refl _ w).alloc (Nat.le_refl _) _).alloc (by simp) _).alloc (by simp; omega) _⟩
theorem row_attrs {w : World} {g : Nat} {t : TypeId} {n : Nat} {f : Nat → Value} {ats : List AttrD} (h : w.rowIs g t (ats.length * 2) f)
    (hf : ∀ j (hj : j < ats.length), f (j * 2) = .string ats[j].name ∧ f (j * 2 + 1) = .string ats[j].value) (cap : Nat) (hc : ats.length ≤ cap) (hm : cap ≤ maxLen) : AttrsAt w g (.slice (some ⟨g, 0, none⟩) ats.length cap) ats := by
  refine ⟨_, _, rfl, hc, hm, .inr ⟨g, 0, rfl, Nat.le_refl _, h.lt, fun i hi => ?_⟩⟩
  rw [Nat.zero_add, ← (hf i hi).1, ← (hf i hi).2]
  exact ⟨h.cell (by omega), h.cell (by omega)⟩
theorem set2 {w : World} {g : Nat} {t : TypeId} {n k : Nat} {f : Nat → Value} {ats : List AttrD} (h : w.rowIs g t (ats.length * 2) f)
    (hf : ∀ j (hj : j < ats.length), j < k → f (j * 2) = .string ats[j].name ∧ f (j * 2 + 1) = .string ats[j].value) (hk : k < ats.length) :
    ∃ f', ((w.setCell ⟨g, k * 2, none⟩ (.string ats[k].name)).setCell ⟨g, k * 2 + 1, none⟩ (.string ats[k].value)).rowIs g t (ats.length * 2) f' ∧
      ∀ j (hj : j < ats.length), j < k + 1 → f' (j * 2) = .string ats[j].name ∧ f' (j * 2 + 1) = .string ats[j].value := by
  refine ⟨_, (h.set (k * 2) _).set (k * 2 + 1) _, fun j hj hjk => ?_⟩
  by_cases e : j = k
  · subst e
    exact ⟨by simp, by simp⟩
  · have h1 : ¬ j * 2 = k * 2 := by omega
    have h2 : ¬ j * 2 = k * 2 + 1 := by omega
    have h3 : ¬ j * 2 + 1 = k * 2 := by omega
    have h4 : ¬ j * 2 + 1 = k * 2 + 1 := by omega
    simp only [h1, h2, h3, h4, if_false]
    exact hf j hj (by omega)
set_option maxRecDepth 100000 in
set_option maxHeartbeats 1000000 in
theorem toAttrS2 (B : Nat) (ats : List AttrD) (v : Value) (w : World) (hl : ats.length ≤ 1048576) (ha : AttrsAt w B v ats) :
    Calls Tryz.prog 38 #[v] w fun e w' => ∃ v', e = .returned v' ∧ AttrsAt w' w.heap.size v' ats ∧ AttrsOwn w' w.heap.size w'.heap.size v' ats.length ∧ Below w.heap.size w w' := by
  obtain ⟨a, cap, rfl⟩ := ha.slice
  have HA : Hid (AttrsAt w B (.slice a ats.length cap) ats) := ha
  clear ha
  have hmk := make_row (P := Tryz.prog) Tryz.underlying46 infoAttr ats.length (by omega) (by omega)
  go_enter Tryz.func38, Tryz.ntmps38
  go_wp2
  go_loopw [4] (fun i wr => ∃ (k : Nat) (f : Nat → Value), i = .int .i64 k ∧ k ≤ ats.length ∧ Hid (wr.rowIs w.heap.size 73 (ats.length * 2) f) ∧ Hid (∀ j (hj : j < ats.length), j < k → f (j * 2) = .string ats[j].name ∧ f (j * 2 + 1) = .string ats[j].value) ∧ Below w.heap.size w wr) (fun i _ => ats.length - (intOf i).toNat)
  case atStart =>
    obtain ⟨f, hf⟩ := made_row w (Value.agg #[.string { data := #[] }, .string { data := #[] }]).cells (ats.length * 2) 73
    exact ⟨0, f, rfl, Nat.zero_le _, hf, fun j _ h => by omega, (Below.refl _ _).alloc (Nat.le_refl _) _⟩
  case round =>
    obtain ⟨k, f, rfl, hkl, HR, HF, hbel⟩ := hrel
    by_cases hlt : k < ats.length
    · obtain ⟨g, o, rfl, hg, c0, c1⟩ := (HA.out.below hbel).at hlt
      have q1 : (k : Int) < (ats.length : Int) := by omega
      go_wp2_with fail
      refine (toAttr ats[k] _).mono ?_
      rintro e w1 ⟨rfl, hb1⟩
      have hR1 : w1.rowIs w.heap.size 73 (ats.length * 2) f := HR.out.of_block (hb1.block _ HR.out.lt)
      have d0 := hR1.cell (i := k * 2) (by omega)
      have d1 := hR1.cell (i := k * 2 + 1) (by omega)
      have f0 := hR1.frozen (k * 2)
      have f1 := hR1.frozen (k * 2 + 1)
      obtain ⟨f', hR2, hF2⟩ := set2 (k := k) (n := 0) hR1 HF.out hlt
      have HR2 := hid hR2
      have HF2 := hid hF2
      have hB : Below w.heap.size w w1 := hbel.trans (hb1.mono hbel.size)
      clear hR1 hR2 hF2
      go_wp2
      exact ⟨⟨k + 1, f', by simp, by omega, HR2, HF2, (hB.setCell (by simp) _).setCell (by simp) _⟩, by simp [intOf]; omega⟩
    · have HX : Hid (AttrsAt wr w.heap.size (.slice (some ⟨w.heap.size, 0, none⟩) ats.length ats.length) ats) := row_attrs (n := 0) HR.out (fun j hj => HF.out j hj (by omega)) _ (Nat.le_refl _) (by unfold maxLen; omega)
      go_wp2
      go_ret
      exact ⟨_, rfl, HX.out, ⟨w.heap.size, f, rfl, Nat.le_refl _, HR.out.lt, HR.out⟩, hbel⟩
theorem toAttrS (B : Nat) (ats : List AttrD) (v : Value) (w : World) (hl : ats.length ≤ 1048576) (ha : AttrsAt w B v ats) :
    Calls Tryz.prog 38 #[v] w fun e w' => ∃ v', e = .returned v' ∧ AttrsAt w' w.heap.size v' ats ∧ Below w.heap.size w w' :=
  (toAttrS2 B ats v w hl ha).mono (fun e w' ⟨v', h1, h2, _, h4⟩ => ⟨v', h1, h2, h4⟩)
end Tr
end Go.Proofs.YtahkpgffoiaeiaaGreatDoor
/- The law's copies of elements. -/
namespace Go.Proofs.YtahkpgffoiaeiaaGreatDoor
open Go.RowKit
set_option linter.unusedVariables false
namespace Tr
/-- A cell, and its mark, of a block that stood. -/
theorem old_cell {B : Nat} {W w : World} (h : Below B W w) {b o : Nat} (hb : b < B) {v : Value} (hc : W.cell? ⟨b, o, none⟩ = some v) : w.cell? ⟨b, o, none⟩ = some v := (h.cell (p := ⟨b, o, none⟩) hb).trans hc
theorem old_free {B : Nat} {W w : World} (h : Below B W w) {b o : Nat} (hb : b < B) (hc : W.frozen? ⟨b, o, none⟩ = false) : w.frozen? ⟨b, o, none⟩ = false := (h.frozen (p := ⟨b, o, none⟩) hb).trans hc
set_option maxRecDepth 100000 in
set_option maxHeartbeats 1000000 in
theorem toElem2 (B : Nat) (x : ElemD) (va : Value) (w : World) (hl : x.attrs.length ≤ 1048576) (ha : AttrsAt w B va x.attrs) :
    Calls Tryz.prog 17 #[.agg #[.string x.tag, .int .i64 x.parent, va]] w fun e w' => ∃ vb, e = .returned (.agg #[.string x.tag, .int .i64 x.parent, vb]) ∧ AttrsAt w' w.heap.size vb x.attrs ∧ AttrsOwn w' w.heap.size w'.heap.size vb x.attrs.length ∧ Below w.heap.size w w' := by
  obtain ⟨a, cap, rfl⟩ := ha.slice
  have HA : Hid (AttrsAt w B (.slice a x.attrs.length cap) x.attrs) := ha
  clear ha
  go_enter Tryz.func17, Tryz.ntmps17
  go_wp2_with fail
  refine (toAttrS2 B x.attrs _ _ hl (HA.out.below ?hB)).mono ?_
  case hB => exact (((Below.refl _ w).alloc (Nat.le_refl _) _).alloc (by simp) _).alloc (by simp; omega) _
  rintro e w1 ⟨vb, rfl, hb, hown, hb1⟩
  obtain ⟨a2, cap2, rfl⟩ := hb.slice
  have HOW : Hid (AttrsOwn w1 (w.heap.size + 1 + 1 + 1) w1.heap.size (.slice a2 x.attrs.length cap2) x.attrs.length) := hid (by simpa only [World.size_alloc] using hown)
  clear hown
  have HB : Hid (AttrsAt w1 (w.heap.size + 1 + 1 + 1) (.slice a2 x.attrs.length cap2) x.attrs) := hid (by simpa only [World.size_alloc] using hb)
  clear hb
  simp only [World.size_alloc] at hb1
  have hz : w.heap.size + 1 + 1 + 1 ≤ w1.heap.size := by have := hb1.size; simpa using this
  have l2 : w.heap.size + 1 + 1 < w1.heap.size := by omega
  have l1 : w.heap.size + 1 < w1.heap.size := by omega
  have c0 := old_cell hb1 (b := w.heap.size + 1 + 1) (o := 0) (v := .string x.tag) (by omega) (by go_simp)
  have c1 := old_cell hb1 (b := w.heap.size + 1 + 1) (o := 1) (v := .int .i64 x.parent) (by omega) (by go_simp)
  have c2 := old_cell hb1 (b := w.heap.size + 1 + 1) (o := 2) (v := .slice none 0 0) (by omega) (by go_simp)
  have d0 := old_cell hb1 (b := w.heap.size + 1) (o := 0) (v := .string { data := #[] }) (by omega) (by go_simp)
  have d1 := old_cell hb1 (b := w.heap.size + 1) (o := 1) (v := .int .i64 0) (by omega) (by go_simp)
  have d2 := old_cell hb1 (b := w.heap.size + 1) (o := 2) (v := .slice none 0 0) (by omega) (by go_simp)
  have f2 := old_free hb1 (b := w.heap.size + 1 + 1) (o := 2) (by omega) (by go_simp)
  have e0 := old_free hb1 (b := w.heap.size + 1) (o := 0) (by omega) (by go_simp)
  have e1 := old_free hb1 (b := w.heap.size + 1) (o := 1) (by omega) (by go_simp)
  have e2 := old_free hb1 (b := w.heap.size + 1) (o := 2) (by omega) (by go_simp)
  go_wp2
  have hB0 : Below w.heap.size w w1 := ((((Below.refl _ w).alloc (Nat.le_refl _) _).alloc (by simp) _).alloc (by simp; omega) _).trans (hb1.mono (by omega))
  exact bodyPost_ret (v := .agg #[.string x.tag, .int .i64 x.parent, .slice a2 x.attrs.length cap2]) (by simp [results, Tryz.results17, go_sem, d0, d1, d2]) rfl ⟨_, rfl,
    ((((HB.out.setBelow (by omega) _).setBelow (by omega) _).setBelow (by omega) _).setBelow (by omega) _).mono (by omega), ((((HOW.out.setBelow (by omega) _).setBelow (by omega) _).setBelow (by omega) _).setBelow (by omega) _).mono (by omega) (by simp [World.setCell]), setB (setB (setB (setB hB0 (by omega) _) (by omega) _) (by omega) _) (by omega) _⟩
theorem toElem (B : Nat) (x : ElemD) (va : Value) (w : World) (hl : x.attrs.length ≤ 1048576) (ha : AttrsAt w B va x.attrs) :
    Calls Tryz.prog 17 #[.agg #[.string x.tag, .int .i64 x.parent, va]] w fun e w' => ∃ vb, e = .returned (.agg #[.string x.tag, .int .i64 x.parent, vb]) ∧ AttrsAt w' w.heap.size vb x.attrs ∧ Below w.heap.size w w' :=
  (toElem2 B x va w hl ha).mono (fun e w' ⟨v', h1, h2, _, h4⟩ => ⟨v', h1, h2, h4⟩)
/-- A row of elements that may be written into, with its attrs, between two blocks. -/
def ElemsOwn (w : World) (B C : Nat) (v : Value) (n : Nat) (m : Nat → Nat) : Prop := ∃ g f, v = .slice (some ⟨g, 0, none⟩) n n ∧ B ≤ g ∧ g < C ∧ w.rowIs g 48 (n * 3) f ∧ ∀ j, j < n → AttrsOwn w (g + 1) C (f (j * 3 + 2)) (m j)
def lenOf (es : List ElemD) (j : Nat) : Nat := match es[j]? with
  | some e => e.attrs.length
  | none => 0
theorem lenOf_eq {es : List ElemD} {j : Nat} (h : j < es.length) : lenOf es j = es[j].attrs.length := by unfold lenOf; rw [List.getElem?_eq_getElem h]
theorem ElemsOwn.kept {w w' : World} {B C n : Nat} {v : Value} {m : Nat → Nat} (h : ElemsOwn w B C v n m) (hb : ∀ g, B ≤ g → g < C → g < w.heap.size → w'.heap[g]? = w.heap[g]?) : ElemsOwn w' B C v n m := by
  obtain ⟨g, f, rfl, h1, h2, h3, h4⟩ := h
  exact ⟨g, f, rfl, h1, h2, h3.of_block (hb g h1 h2 h3.lt), fun j hj => (h4 j hj).kept (fun b hb1 hb2 hb3 => hb b (by omega) hb2 hb3)⟩
theorem ElemsOwn.below {w w' : World} {B C n : Nat} {v : Value} {m : Nat → Nat} (h : ElemsOwn w B C v n m) (hb : Below w.heap.size w w') : ElemsOwn w' B C v n m := h.kept (fun g _ _ hg => hb.block g hg)
theorem row_elems {w : World} {g : Nat} {t : TypeId} {f : Nat → Value} {es : List ElemD} (h : w.rowIs g t (es.length * 3) f)
    (hf : ∀ j (hj : j < es.length), f (j * 3) = .string es[j].tag ∧ f (j * 3 + 1) = .int .i64 es[j].parent ∧ AttrsAt w (g + 1) (f (j * 3 + 2)) es[j].attrs) (cap : Nat) (hc : es.length ≤ cap) (hm : cap ≤ maxLen) : ElemsAt w g (.slice (some ⟨g, 0, none⟩) es.length cap) es := by
  refine ⟨_, _, rfl, hc, hm, .inr ⟨g, 0, rfl, Nat.le_refl _, h.lt, fun i hi => ?_⟩⟩
  obtain ⟨h0, h1, h2⟩ := hf i hi
  rw [Nat.zero_add, ← h0, ← h1]
  exact ⟨h.cell (by omega), h.cell (by omega), _, h.cell (by omega), h2.mono (by omega)⟩
theorem set3 {w : World} {g : Nat} {t : TypeId} {k : Nat} {f : Nat → Value} {va : Value} {es : List ElemD} (h : w.rowIs g t (es.length * 3) f)
    (hf : ∀ j (hj : j < es.length), j < k → f (j * 3) = .string es[j].tag ∧ f (j * 3 + 1) = .int .i64 es[j].parent ∧ AttrsAt w (g + 1) (f (j * 3 + 2)) es[j].attrs) (hk : k < es.length) (hv : AttrsAt w (g + 1) va es[k].attrs) :
    ∃ f', (((w.setCell ⟨g, k * 3, none⟩ (.string es[k].tag)).setCell ⟨g, k * 3 + 1, none⟩ (.int .i64 es[k].parent)).setCell ⟨g, k * 3 + 2, none⟩ va).rowIs g t (es.length * 3) f' ∧
      (∀ j (hj : j < es.length), j < k + 1 → f' (j * 3) = .string es[j].tag ∧ f' (j * 3 + 1) = .int .i64 es[j].parent ∧ AttrsAt (((w.setCell ⟨g, k * 3, none⟩ (.string es[k].tag)).setCell ⟨g, k * 3 + 1, none⟩ (.int .i64 es[k].parent)).setCell ⟨g, k * 3 + 2, none⟩ va) (g + 1) (f' (j * 3 + 2)) es[j].attrs) ∧ ∀ j, f' (j * 3 + 2) = if j = k then va else f (j * 3 + 2) := by
  have lift : ∀ {v : Value} {ats : List AttrD}, AttrsAt w (g + 1) v ats → AttrsAt (((w.setCell ⟨g, k * 3, none⟩ (.string es[k].tag)).setCell ⟨g, k * 3 + 1, none⟩ (.int .i64 es[k].parent)).setCell ⟨g, k * 3 + 2, none⟩ va) (g + 1) v ats :=
    fun h => ((h.setBelow (by omega) _).setBelow (by omega) _).setBelow (by omega) _
  refine ⟨_, ((h.set (k * 3) _).set (k * 3 + 1) _).set (k * 3 + 2) _, fun j hj hjk => ?_, fun j => ?_⟩
  rotate_left
  · by_cases e : j = k
    · subst e; simp
    · have h7 : ¬ j * 3 + 2 = k * 3 := by omega
      have h8 : ¬ j * 3 + 2 = k * 3 + 1 := by omega
      have h9 : ¬ j * 3 + 2 = k * 3 + 2 := by omega
      simp only [h7, h8, h9, e, if_false]
  by_cases e : j = k
  · subst e
    exact ⟨by simp, by simp, by simpa using lift hv⟩
  · have h1 : ¬ j * 3 = k * 3 := by omega
    have h2 : ¬ j * 3 = k * 3 + 1 := by omega
    have h3 : ¬ j * 3 = k * 3 + 2 := by omega
    have h4 : ¬ j * 3 + 1 = k * 3 := by omega
    have h5 : ¬ j * 3 + 1 = k * 3 + 1 := by omega
    have h6 : ¬ j * 3 + 1 = k * 3 + 2 := by omega
    have h7 : ¬ j * 3 + 2 = k * 3 := by omega
    have h8 : ¬ j * 3 + 2 = k * 3 + 1 := by omega
    have h9 : ¬ j * 3 + 2 = k * 3 + 2 := by omega
    simp only [h1, h2, h3, h4, h5, h6, h7, h8, h9, if_false]
    obtain ⟨q0, q1, q2⟩ := hf j hj (by omega)
    exact ⟨q0, q1, lift q2⟩
set_option maxRecDepth 100000 in
set_option maxHeartbeats 1000000 in
theorem toElemS2 (B : Nat) (es : List ElemD) (v : Value) (w : World) (hl : SmallE 1048576 es) (ha : ElemsAt w B v es) :
    Calls Tryz.prog 6 #[v] w fun e w' => ∃ v', e = .returned v' ∧ ElemsAt w' w.heap.size v' es ∧ ElemsOwn w' w.heap.size w'.heap.size v' es.length (lenOf es) ∧ Below w.heap.size w w' := by
  obtain ⟨a, cap, rfl⟩ := ha.slice
  have HA : Hid (ElemsAt w B (.slice a es.length cap) es) := ha
  have HL : Hid (SmallE 1048576 es) := hl
  have hlen := hl.1
  clear ha hl
  have hmk := make_row (P := Tryz.prog) Tryz.underlying28 infoElem es.length (by omega) (by omega)
  go_enter Tryz.func6, Tryz.ntmps6
  go_wp2
  go_loopw [4] (fun i wr => ∃ (k : Nat) (f : Nat → Value), i = .int .i64 k ∧ k ≤ es.length ∧ Hid (wr.rowIs w.heap.size 48 (es.length * 3) f) ∧ Hid (∀ j (hj : j < es.length), j < k → f (j * 3) = .string es[j].tag ∧ f (j * 3 + 1) = .int .i64 es[j].parent ∧ AttrsAt wr (w.heap.size + 1) (f (j * 3 + 2)) es[j].attrs) ∧ Hid (∀ j (hj : j < es.length), j < k → AttrsOwn wr (w.heap.size + 1) wr.heap.size (f (j * 3 + 2)) es[j].attrs.length) ∧ Below w.heap.size w wr) (fun i _ => es.length - (intOf i).toNat)
  case atStart =>
    obtain ⟨f, hf⟩ := made_row w (Value.agg #[.string { data := #[] }, .int .i64 0, .slice none 0 0]).cells (es.length * 3) 48
    exact ⟨0, f, rfl, Nat.zero_le _, hf, fun j _ h => by omega, fun j _ h => by omega, (Below.refl _ _).alloc (Nat.le_refl _) _⟩
  case round =>
    obtain ⟨k, f, rfl, hkl, HR, HF, HW, hbel⟩ := hrel
    by_cases hlt : k < es.length
    · obtain ⟨g, o, va, rfl, hg, c0, c1, c2, hva⟩ := (HA.out.below hbel).at hlt
      obtain ⟨a2, cap2, rfl⟩ := hva.slice
      have HV : Hid (AttrsAt wr B (.slice a2 es[k].attrs.length cap2) es[k].attrs) := hva
      clear hva
      have hsm : es[k].attrs.length ≤ 1048576 := by have := (HL.out.2 es[k] (List.getElem_mem hlt)).2.1; omega
      have q1 : (k : Int) < (es.length : Int) := by omega
      go_wp2_with fail
      refine (toElem2 B es[k] _ _ hsm HV.out).mono ?_
      rintro e w1 ⟨vb, rfl, hvb, hvo, hb1⟩
      have hlt1 := HR.out.lt
      obtain ⟨a3, cap3, rfl⟩ := hvb.slice
      have hR1 : w1.rowIs w.heap.size 48 (es.length * 3) f := HR.out.of_block (hb1.block _ HR.out.lt)
      have d0 := hR1.cell (i := k * 3) (by omega)
      have d1 := hR1.cell (i := k * 3 + 1) (by omega)
      have d2 := hR1.cell (i := k * 3 + 2) (by omega)
      have f0 := hR1.frozen (k * 3)
      have f1 := hR1.frozen (k * 3 + 1)
      have f2 := hR1.frozen (k * 3 + 2)
      have hF1 : ∀ j (hj : j < es.length), j < k → f (j * 3) = .string es[j].tag ∧ f (j * 3 + 1) = .int .i64 es[j].parent ∧ AttrsAt w1 (w.heap.size + 1) (f (j * 3 + 2)) es[j].attrs :=
        fun j hj hjk => ⟨(HF.out j hj hjk).1, (HF.out j hj hjk).2.1, (HF.out j hj hjk).2.2.below hb1⟩
      obtain ⟨f', hR2, hF2, hF3⟩ := set3 (k := k) hR1 hF1 hlt (hvb.mono hlt1)
      have HW2 : Hid (∀ j (hj : j < es.length), j < k + 1 → AttrsOwn (((w1.setCell ⟨w.heap.size, k * 3, none⟩ (.string es[k].tag)).setCell ⟨w.heap.size, k * 3 + 1, none⟩ (.int .i64 es[k].parent)).setCell ⟨w.heap.size, k * 3 + 2, none⟩ (.slice a3 es[k].attrs.length cap3)) (w.heap.size + 1) (((w1.setCell ⟨w.heap.size, k * 3, none⟩ (.string es[k].tag)).setCell ⟨w.heap.size, k * 3 + 1, none⟩ (.int .i64 es[k].parent)).setCell ⟨w.heap.size, k * 3 + 2, none⟩ (.slice a3 es[k].attrs.length cap3)).heap.size (f' (j * 3 + 2)) es[j].attrs.length) := hid (fun j hj hjk => by
        rw [hF3 j]
        by_cases e : j = k
        · subst e
          rw [if_pos rfl]
          exact (((hvo.mono (by omega) (Nat.le_refl _)).setBelow (by omega) _).setBelow (by omega) _).setBelow (by omega) _ |>.mono (Nat.le_refl _) (by simp [World.setCell])
        · rw [if_neg e]
          exact ((((HW.out j hj (by omega)).below hb1).mono (Nat.le_refl _) hb1.size).setBelow (by omega) _).setBelow (by omega) _ |>.setBelow (by omega) _ |>.mono (Nat.le_refl _) (by simp [World.setCell]))
      clear hvo hF3
      have HR2 := hid hR2
      have HF2 := hid hF2
      have hB : Below w.heap.size w w1 := hbel.trans (hb1.mono hbel.size)
      clear hR1 hR2 hF2 hF1 hvb
      go_wp2
      exact ⟨⟨k + 1, f', by simp, by omega, HR2, HF2, HW2, setB (setB (setB hB (Nat.le_refl _) _) (Nat.le_refl _) _) (Nat.le_refl _) _⟩, by simp [intOf]; omega⟩
    · have HX : Hid (ElemsAt wr w.heap.size (.slice (some ⟨w.heap.size, 0, none⟩) es.length es.length) es) := row_elems HR.out (fun j hj => HF.out j hj (by omega)) _ (Nat.le_refl _) (by unfold maxLen; omega)
      go_wp2
      go_ret
      exact ⟨_, rfl, HX.out, ⟨w.heap.size, f, rfl, Nat.le_refl _, HR.out.lt, HR.out, fun j hj => by rw [lenOf_eq hj]; exact HW.out j hj (by omega)⟩, hbel⟩
theorem toElemS (B : Nat) (es : List ElemD) (v : Value) (w : World) (hl : SmallE 1048576 es) (ha : ElemsAt w B v es) :
    Calls Tryz.prog 6 #[v] w fun e w' => ∃ v', e = .returned v' ∧ ElemsAt w' w.heap.size v' es ∧ Below w.heap.size w w' :=
  (toElemS2 B es v w hl ha).mono (fun e w' ⟨v', h1, h2, _, h4⟩ => ⟨v', h1, h2, h4⟩)
end Tr
end Go.Proofs.YtahkpgffoiaeiaaGreatDoor
