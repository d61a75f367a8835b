/- Draws of chapter 13: bytes to read. No condition. -/
import Derived.Test.YtiliahibnhfhoaaJdG
import Derived.Test.YtiliahibnhfhoaaJtB
namespace Go.Proofs.Ytiliahibnhfhoaa
open Go.RowKit
set_option linter.unusedVariables false
namespace Jn
theorem vbs_set {l : List UInt8} {k : Nat} {b : UInt8} : (vbs l).set k (vb b) = vbs (l.set k b) := by simp [vbs, List.map_set]
theorem byte_val {r : Nat} (h : r < 256) : Value.int .u8 (r : Int) = vb (by8 r) := by
  unfold vb by8
  rw [UInt8.toNat_ofNat', Nat.mod_eq_of_lt (by omega)]
/-- One byte of one's own row, stored. -/
theorem Ob.byte {w : World} {B : Nat} {a : Option Addr} {c : Nat} {l : List UInt8} (h : Ob w B (.slice a l.length c) l) {r : Nat} (hr : r < l.length) (b : UInt8) :
    ∃ g, a = some ⟨g, 0, none⟩ ∧ B ≤ g ∧ g < w.heap.size ∧ (∃ u, w.cell? ⟨g, r, none⟩ = some u) ∧ w.frozen? ⟨g, r, none⟩ = false ∧ Ob (w.setCell ⟨g, r, none⟩ (vb b)) B (.slice a (l.set r b).length c) (l.set r b) := by
  have h' := h
  obtain ⟨hl, ⟨_, hn⟩ | ⟨g, cap, cur, hv, hB, hg, hc, hm, hs, ht⟩⟩ := h'
  · omega
  · cases hv
    obtain ⟨hcell, hf, hbg, hgl⟩ := owns_cell h hr
    refine ⟨g, rfl, hbg, hgl, hcell, hf, ?_⟩
    have h2 := (World.ownsRow.stored h r (vb b)).1
    rw [vbs_set] at h2
    unfold Ob
    rw [List.length_set]
    exact h2
def RDraw (w : World) (e : Ending) (w' : World) : Prop := ∃ (d : List UInt8) (a : Option Addr) (c : Nat), e = .returned (.slice a d.length c) ∧ At w' w'.heap.size (.slice a d.length c) d ∧ d.length ≤ 4802 ∧ Below w.heap.size w w'
set_option maxRecDepth 100000 in
set_option maxHeartbeats 8000000 in
theorem readD (len cap : Nat) (a : Option Addr) (w : World) (hln : len ≤ 1048576) (hc : Drw.CodeAt w.heap.size w a len) :
    Calls Try.prog 45 #[.slice a len cap] w (RDraw w) := by
  have hcode := hid (fun w' (hb : Below w.heap.size w w') => code_below hc hb (Nat.le_refl _))
  clear hc
  go_enter Try.func45, Try.ntmps45
  go_wp2_with fail
  refine (Drw.source a len cap _).mono ?_
  rintro e w1 ⟨rfl, hw1⟩
  have B1 := hid (show Below w.heap.size w w1 by rw [hw1]; exact (Below.refl _ w).alloc (Nat.le_refl _) _)
  have P1 := hid (show Drw.Src w1 w.heap.size a len cap 0 by rw [hw1]; exact heap_alloc_new w _)
  clear hw1
  go_wp2_with fail
  refine (journalD w.heap.size w.heap.size len cap 0 a _ P1.out (hcode.out _ B1.out) (Nat.le_refl _) (by omega) (by omega)).mono ?_
  rintro e w2 ⟨s, l, x1, k1, x2, k2, rfl, hj, hs1, hl1, ⟨p, hp, hsr⟩, hg2⟩
  have B2 := hid (B1.out.grown hg2 B1.out.size (fun b e => by have := Option.some.inj e; omega))
  obtain ⟨w3, hw3⟩ : ∃ w3, w3 = w2.alloc (.cells #[.slice x1 s.length k1, .slice x2 l.length k2] 44) := ⟨_, rfl⟩
  obtain ⟨g5, hg5'⟩ : ∃ g5, g5 = w2.heap.size := ⟨_, rfl⟩
  have hsl := blk_lt hsr
  have hb3 : Below w2.heap.size w2 w3 := by rw [hw3]; exact (Below.refl w2.heap.size w2).alloc (Nat.le_refl _) _
  have hx3 : w3.heap[g5]? = some (.cells #[.slice x1 s.length k1, .slice x2 l.length k2] 44 (0, 0)) := by rw [hw3, hg5']; exact heap_alloc_new w2 _
  have B3 := hid (B2.out.trans (hb3.mono B2.out.size))
  have S3 := hid (src_below hsr hb3 hsl)
  have HJ := hid (fun wx (hb : Below w3.heap.size w3 wx) => (hj.below hb3 (Nat.le_refl _)).below hb (Nat.le_refl _))
  have hg5 := blk_lt hx3
  have m0 := blk_cell hx3 (o := 0) (v := .slice x1 s.length k1) rfl
  have m1 := blk_cell hx3 (o := 1) (v := .slice x2 l.length k2) rfl
  have hs3 : w.heap.size < w3.heap.size := Nat.lt_of_lt_of_le hsl hb3.size
  clear hj hsr hg2 hb3 hx3 hsl B1 P1 B2
  go_upto_region 3 with fail
  rw [← hw3, ← hg5']
  clear hw3 hg5'
  have HM0 : Hid (AM w3 w3.drew (.slice none 0 0) []) := hid ⟨(Below.refl _ w3).drew, ob_nil _ _⟩
  refine wp_region_held_drew (S := fun wx => Below w3.heap.size w3 wx) (by kernel_rfl) HM0.out.hb (fun hHeld => ?_)
  obtain ⟨wd, hwd⟩ : ∃ wd, wd = w3.drew := ⟨_, rfl⟩
  rw [← hwd] at HM0
  rw [← hwd]
  clear hwd
  have hbd := HM0.out.hb
  refine wpAnyH_take (i := 1) (oi := { dst := some 12, op := Go.Op.fieldAddr 44 (Go.Operand.tmp 4) 0, type := 0, pos := "l13_journal.go:168", after := #[], guard := none }) (v := .pointer (some ⟨g5, 0, none⟩)) rfl (by kernel_rfl) (by kernel_rfl) (by kernel_rfl) (fun _ _ _ h => h) (Or.inl ⟨by rfl, by intro w hSw; (try dsimp only at hSw); go_simp⟩) (by assumption) ?_
  simp only [Act.put, List.setIfInBounds_toArray, List.set_cons_zero, List.set_cons_succ]
  refine wpAnyH_take (i := 2) (oi := { dst := some 13, op := Go.Op.load 24 (Go.Operand.tmp 12), type := 24, pos := "l13_journal.go:168", after := #[{ on := 1, ground := Go.Ground.data }], guard := none }) (v := .slice x1 s.length k1) rfl (by kernel_rfl) (by kernel_rfl) (by kernel_rfl) (fun _ _ _ h => h) (Or.inl ⟨by rfl, by intro w hSw; (try dsimp only at hSw); have ca := kept_cell hSw hg5 m0; go_simp⟩) (by assumption) ?_
  simp only [Act.put, List.setIfInBounds_toArray, List.set_cons_zero, List.set_cons_succ]
  refine wpAnyH_take (i := 4) (oi := { dst := some 15, op := Go.Op.fieldAddr 44 (Go.Operand.tmp 4) 1, type := 0, pos := "l13_journal.go:168", after := #[], guard := none }) (v := .pointer (some ⟨g5, 1, none⟩)) rfl (by kernel_rfl) (by kernel_rfl) (by kernel_rfl) (fun _ _ _ h => h) (Or.inl ⟨by rfl, by intro w hSw; (try dsimp only at hSw); go_simp⟩) (by assumption) ?_
  simp only [Act.put, List.setIfInBounds_toArray, List.set_cons_zero, List.set_cons_succ]
  refine wpAnyH_take (i := 5) (oi := { dst := some 16, op := Go.Op.load 24 (Go.Operand.tmp 15), type := 24, pos := "l13_journal.go:168", after := #[{ on := 4, ground := Go.Ground.data }], guard := none }) (v := .slice x2 l.length k2) rfl (by kernel_rfl) (by kernel_rfl) (by kernel_rfl) (fun _ _ _ h => h) (Or.inl ⟨by rfl, by intro w hSw; (try dsimp only at hSw); have ca := kept_cell hSw hg5 m1; go_simp⟩) (by assumption) ?_
  simp only [Act.put, List.setIfInBounds_toArray, List.set_cons_zero, List.set_cons_succ]
  refine wpAnyH_ready (rs := [0]) (by kernel_rfl) (by simp) ?_
  refine AllReadyH.cons (o := { dst := some 11, op := Go.Op.buildSlice 24 0 #[], type := 24, pos := "l13_journal.go:168", after := #[], guard := none }) rfl (fun K hK => ?_) AllReadyH.nil
  go_simp
  obtain ⟨t1, hw1⟩ : ∃ wn, wn = wd.alloc (.cells #[] 5) := ⟨_, rfl⟩
  rw [← hw1]
  have HM1 := hid (HM0.out.made hw1)
  clear hw1
  refine hK.out _ _ HM1.out.hb (fun hHeld => ?_)
  clear hK K
  try simp only [Act.put, List.setIfInBounds_toArray, List.set_cons_zero, List.set_cons_succ]
  refine wpAnyH_ready (rs := [3]) (by kernel_rfl) (by simp) ?_
  refine AllReadyH.cons (o := { dst := some 14, op := Go.Op.call { callee := Go.Callee.builtin Go.Builtin.append, args := #[Go.Operand.tmp 11, Go.Operand.tmp 13], argTypes := #[24, 24] }, type := 24, pos := "l13_journal.go:168", after := #[{ on := 0, ground := Go.Ground.data }, { on := 2, ground := Go.Ground.data }], guard := none }) rfl (fun K hK => ?_) AllReadyH.nil
  refine stepL _ (by rfl) _ _ (by rfl) w3.heap.size (.slice (some ⟨wd.heap.size, 0, none⟩) 0 0) [] (by rfl) HM1.out.o (.slice x1 s.length k1) s _ (by rfl) ((HJ.out _ HM1.out.hb).o1.at) (by simp; omega) HM1.out.hb.size ?_
  intro p2 a2 c2 t2 hG
  have HM2 := hid (HM1.out.grow hG)
  obtain rfl : s = p2 := by rw [hG.eq, List.nil_append]
  clear hG
  refine hK.out _ _ HM2.out.hb (fun hHeld => ?_)
  clear hK K
  try simp only [Act.put, List.setIfInBounds_toArray, List.set_cons_zero, List.set_cons_succ]
  refine wpAnyH_ready (rs := [6]) (by kernel_rfl) (by simp) ?_
  refine AllReadyH.cons (o := { dst := some 17, op := Go.Op.call { callee := Go.Callee.builtin Go.Builtin.append, args := #[Go.Operand.tmp 14, Go.Operand.tmp 16], argTypes := #[24, 24] }, type := 24, pos := "l13_journal.go:168", after := #[{ on := 3, ground := Go.Ground.data }, { on := 5, ground := Go.Ground.data }, { on := 3, ground := Go.Ground.chain }], guard := none }) rfl (fun K hK => ?_) AllReadyH.nil
  refine stepL _ (by rfl) _ _ (by rfl) w3.heap.size (.slice a2 s.length c2) s (by rfl) HM2.out.o (.slice x2 l.length k2) l _ (by rfl) ((HJ.out _ HM2.out.hb).o2.at) (by omega) HM2.out.hb.size ?_
  intro p6 a6 c6 t3 hG
  have HM3 := hid (HM2.out.grow hG)
  have HE : Hid (p6.length ≤ 4802) := hid (by rw [hG.eq, List.length_append]; omega)
  clear hG
  refine hK.out _ _ HM3.out.hb (fun hHeld => ?_)
  clear hK K
  try simp only [Act.put, List.setIfInBounds_toArray, List.set_cons_zero, List.set_cons_succ]
  refine wpAnyH_take (i := 7) (oi := { dst := some 5, op := Go.Op.assign (Go.Operand.tmp 17), type := 24, pos := "l13_journal.go:168", after := #[{ on := 6, ground := Go.Ground.data }, { on := 6, ground := Go.Ground.chain }, { on := 0, ground := Go.Ground.phase }, { on := 1, ground := Go.Ground.phase }, { on := 2, ground := Go.Ground.phase }, { on := 3, ground := Go.Ground.phase }, { on := 4, ground := Go.Ground.phase }, { on := 5, ground := Go.Ground.phase }, { on := 6, ground := Go.Ground.phase }], guard := none }) (v := .slice a6 p6.length c6) rfl (by kernel_rfl) (by kernel_rfl) (by kernel_rfl) (fun _ _ _ h => h) (Or.inl ⟨by rfl, by intro w hSw; (try dsimp only at hSw); go_simp⟩) (by assumption) ?_
  simp only [Act.put, List.setIfInBounds_toArray, List.set_cons_zero, List.set_cons_succ]
  refine wpAnyH_done (by kernel_rfl) ?_ _
  have B4 := hid (B3.out.trans (HM3.out.hb.mono B3.out.size))
  have S4 := hid (src_below S3.out HM3.out.hb hs3)
  have O4 := hid HM3.out.o
  have hpl := HE.out
  clear HM0 HM1 HM2 HM3 HJ S3 B3 m0 m1 hg5 hbd hHeld
  by_cases h0 : p6.length = 0
  · have q0 : ¬ (0 < p6.length) := by omega
    go_wp2_with fail
    go_ret
    exact ⟨p6, _, _, rfl, O4.out.at, hpl, B4.out⟩
  have q0 : 0 < p6.length := by omega
  go_wp2_with fail
  refine (Drw.chance w.heap.size w.heap.size len cap p 2 a _ S4.out (hcode.out _ B4.out) (Nat.le_refl _) (by omega) (by omega) (by omega) (by omega)).mono ?_
  rintro e w5 ⟨t, rfl, hs5, hg5⟩
  have O5 := hid (O4.out.kept hg5 (fun b e f => by have := (O4.out.lt b e).1; have := Option.some.inj f; omega))
  have B5 := hid (B4.out.grown hg5 B4.out.size (fun b e => by have := Option.some.inj e; omega))
  have S5 := hid hs5
  clear hs5 hg5 O4 B4 S4
  cases t with
  | false =>
    go_wp2_with fail
    go_ret
    exact ⟨p6, _, _, rfl, O5.out.at, hpl, B5.out⟩
  | true =>
    go_wp2_with fail
    refine (nextB w.heap.size w.heap.size len cap (p + 1) p6.length a _ S5.out (hcode.out _ B5.out) (Nat.le_refl _) (by omega) (by omega) (by omega) (by omega)).mono ?_
    rintro e w6 ⟨r, hr, rfl, hs6, hg6⟩
    have O6 := hid (O5.out.kept hg6 (fun b e f => by have := (O5.out.lt b e).1; have := Option.some.inj f; omega))
    have B6 := hid (B5.out.grown hg6 B5.out.size (fun b e => by have := Option.some.inj e; omega))
    have S6 := hid hs6
    clear hs6 hg6 O5 B5 S5
    go_wp2_with fail
    refine (Drw.chance w.heap.size w.heap.size len cap (p + 1 + 1) 2 a _ S6.out (hcode.out _ B6.out) (Nat.le_refl _) (by omega) (by omega) (by omega) (by omega)).mono ?_
    rintro e w7 ⟨t2, rfl, hs7, hg7⟩
    have O7 := hid (O6.out.kept hg7 (fun b e f => by have := (O6.out.lt b e).1; have := Option.some.inj f; omega))
    have B7 := hid (B6.out.grown hg7 B6.out.size (fun b e => by have := Option.some.inj e; omega))
    have S7 := hid hs7
    clear hs7 hg7 O6 B6 S6
    cases t2 with
    | true =>
      go_wp2_with fail
      refine (nextB w.heap.size w.heap.size len cap (p + 1 + 1 + 1) 256 a _ S7.out (hcode.out _ B7.out) (Nat.le_refl _) (by omega) (by omega) (by omega) (by omega)).mono ?_
      rintro e w8 ⟨r2, hr2, rfl, hs8, hg8⟩
      have O8 := hid (O7.out.kept hg8 (fun b e f => by have := (O7.out.lt b e).1; have := Option.some.inj f; omega))
      have B8 := hid (B7.out.grown hg8 B7.out.size (fun b e => by have := Option.some.inj e; omega))
      clear hs8 hg8 O7 B7 S7
      obtain ⟨gq, rfl, hgB, hgq, ⟨u, hcu⟩, hfu, hob⟩ := O8.out.byte hr (by8 r2)
      rw [← byte_val hr2] at hob
      have HOB := hid hob
      have q1 : (r : Int) < (p6.length : Int) := by omega
      have hww := IntWalk.u8_in (r2 : Int) (by omega)
      have HB9 := hid (setB B8.out (show w.heap.size ≤ gq by omega) (.int .u8 (r2 : Int)) (o := r))
      clear hob
      go_wp2_with fail
      go_ret
      have hle : (p6.set r (by8 r2)).length = p6.length := List.length_set
      exact ⟨p6.set r (by8 r2), some ⟨gq, 0, none⟩, c6, by rw [hle]; rfl, HOB.out.at, by rw [hle]; exact hpl, HB9.out⟩
    | false =>
      obtain ⟨a9, hsl9, hat9, rfl⟩ := O7.out.at.to r (by omega)
      go_wp2_with fail
      go_ret
      have hle : (p6.take r).length = r := by rw [List.length_take]; omega
      exact ⟨p6.take r, _, c6, by rw [hle]; rfl, by rw [hle]; exact hat9, by omega, B7.out⟩
end Jn
end Go.Proofs.Ytiliahibnhfhoaa
