/- Laid together: PxD, PxE. -/
import Derived.Test.YtahkpgffoiaeiaaGreatDoorJProcOf13
import Derived.Shelf.Strings.SlTrimAscii
import Derived.Deep.RegionHeld3
import Derived.Deep.AppendLies
import Derived.Deep.RegionLaw
/- The program's reading: what is trimmed, addNode. -/
namespace Go.Proofs.YtahkpgffoiaeiaaGreatDoor
open Go.RowKit
set_option linter.unusedVariables false
namespace Ex
open Nd (NodeD)
set_option maxRecDepth 100000 in
theorem digs (b : UInt8) : ([48, 49, 50, 51, 52, 53, 54, 55, 56, 57] : List UInt8).contains b = isD b := by
  have h : ∀ n : Fin 256, ([48, 49, 50, 51, 52, 53, 54, 55, 56, 57] : List UInt8).contains (UInt8.ofFin n) = isD (UInt8.ofFin n) := by decide
  exact h b.toFin
theorem implTrim (rest : List UInt8) (w : World) :
    Calls Tryz.prog 137 #[.string (str rest), .string ⟨#[48, 49, 50, 51, 52, 53, 54, 55, 56, 57]⟩] w fun e w' => e = .returned (.string (str (rest.dropWhile isD))) ∧ Below w.heap.size w w' := by
  refine (Any.strings_TrimLeft_laid Tryz.lays161 (by kernel_rfl) (str rest) ⟨#[48, 49, 50, 51, 52, 53, 54, 55, 56, 57]⟩ w (by decide) ?_).mono ?_
  · intro j b h
    have hm := List.mem_of_getElem? h
    simp at hm
    rcases hm with rfl | rfl | rfl | rfl | rfl | rfl | rfl | rfl | rfl | rfl <;> decide
  · rintro e w' ⟨rfl, hb⟩
    refine ⟨?_, hb⟩
    unfold Lib.trimLeftS str
    simp only
    have : (fun x => List.contains [48, 49, 50, 51, 52, 53, 54, 55, 56, 57] x) = isD := funext digs
    rw [this]
set_option maxRecDepth 100000 in
set_option maxHeartbeats 2000000 in
theorem addBad (R : Nat) (rest : List UInt8) (ns : List NodeD) (n : NodeD) (w : World) (h : Rd w R rest ns) (hf : form n = true) (h16 : ns.length ≤ 16) (hbad : ns.length = 16 ∨ inside n ns.length = false) :
    Calls Tryz.prog 136 #[.pointer (some ⟨R, 0, none⟩), .agg #[.int .i64 n.kind, .int .i64 n.value, .int .i64 n.left, .int .i64 n.right]] w fun e w' => e = .returned (.tuple #[.int .i64 0, .bool false]) ∧ Below w.heap.size w w' := by
  obtain ⟨c0, f0, f1, a, cap, c1⟩ := h.c0
  have hlt := h.lt
  have hb0 : Below w.heap.size w (w.alloc (.cells #[.int .i64 n.kind, .int .i64 n.value, .int .i64 n.left, .int .i64 n.right] 143)) := (Below.refl _ w).alloc (Nat.le_refl _) _
  have d1 := kept_cell hb0 hlt c1
  have HI := hid (implInside n ns.length (w.alloc (.cells #[.int .i64 n.kind, .int .i64 n.value, .int .i64 n.left, .int .i64 n.right] 143)) hf)
  have HB := hid hb0
  by_cases he : ns.length = 16
  · have b1 : ((ns.length : Int) == 16) = true := beq_iff_eq.2 (by omega)
    clear h hf hbad he hb0 c0 c1
    go_enter Tryz.func136, Tryz.ntmps136
    go_wp2
    go_ret2
    exact ⟨rfl, HB.out⟩
  · have b1 : ((ns.length : Int) == 16) = false := beq_eq_false_iff_ne.2 (by omega)
    have hin : inside n ns.length = false := by
      rcases hbad with h | h
      · exact absurd h he
      · exact h
    rw [hin] at HI
    clear h hf hbad he hb0 c0 c1 hin
    go_enter Tryz.func136, Tryz.ntmps136
    go_wp2_with fail
    refine HI.out.mono ?_
    rintro e w1 ⟨rfl, hb1⟩
    go_wp2
    go_ret2
    exact ⟨rfl, HB.out.trans (hb1.mono HB.out.size)⟩
set_option maxRecDepth 100000 in
set_option maxHeartbeats 4000000 in
theorem addGood (R : Nat) (rest : List UInt8) (ns : List NodeD) (n : NodeD) (w : World) (h : Rd w R rest ns) (hf : form n = true) (h16 : ns.length < 16) (hin : inside n ns.length = true) :
    Calls Tryz.prog 136 #[.pointer (some ⟨R, 0, none⟩), .agg #[.int .i64 n.kind, .int .i64 n.value, .int .i64 n.left, .int .i64 n.right]] w fun e w' => e = .returned (.tuple #[.int .i64 (ns.length : Int), .bool true]) ∧ Rd w' R rest (ns ++ [n]) ∧ Below R w w' := by
  obtain ⟨j0, hj, hy0, hy1, hy2⟩ := info_parts infoNode
  have hlt := h.lt
  obtain ⟨v, hR, hown⟩ := h
  obtain ⟨a, cap, rfl⟩ := own4_slice hown
  have hb0 : Below w.heap.size w (w.alloc (.cells #[.int .i64 n.kind, .int .i64 n.value, .int .i64 n.left, .int .i64 n.right] 143)) := (Below.refl _ w).alloc (Nat.le_refl _) _
  have HI := hid (implInside n ns.length (w.alloc (.cells #[.int .i64 n.kind, .int .i64 n.value, .int .i64 n.left, .int .i64 n.right] 143)) hf)
  rw [hin] at HI
  have b1 : ((ns.length : Int) == 16) = false := beq_eq_false_iff_ne.2 (by omega)
  have hRA : (w.alloc (.cells #[.int .i64 n.kind, .int .i64 n.value, .int .i64 n.left, .int .i64 n.right] 143)).heap[R]? = some (.cells #[.string (str rest), .slice a ns.length cap] 205 (0, 0)) := (hb0.block R hlt).trans hR
  have d1 : (w.alloc (.cells #[.int .i64 n.kind, .int .i64 n.value, .int .i64 n.left, .int .i64 n.right] 143)).cell? ⟨R, 1, none⟩ = some (.slice a ns.length cap) := by simp only [World.cell?, hRA]; rfl
  have HOA := hid (owns_keep hown hb0)
  have hneR : (Value.slice a ns.length cap).ownBlock ≠ some R := fun e => by have := (own_lt hown e).1; omega
  have hneB : (Value.slice a ns.length cap).ownBlock ≠ some w.heap.size := fun e => by have := (own_lt hown e).2; omega
  have hsz : (w.alloc (.cells #[.int .i64 n.kind, .int .i64 n.value, .int .i64 n.left, .int .i64 n.right] 143)).heap.size = w.heap.size + 1 := by simp
  clear hown hin hf
  go_enter Tryz.func136, Tryz.ntmps136
  go_wp2_with fail
  refine HI.out.mono ?_
  rintro e w1 ⟨rfl, hb1⟩
  have hR1 : w1.heap[R]? = some (.cells #[.string (str rest), .slice a ns.length cap] 205 (0, 0)) := (hb1.block R (by omega)).trans hRA
  have u1 : w1.cell? ⟨R, 1, none⟩ = some (.slice a ns.length cap) := by simp [World.cell?, hR1]
  have uf : w1.frozen? ⟨R, 1, none⟩ = false := by simp [World.frozen?, hR1]
  have k0 := kept_cell hb1 (b := w.heap.size) (o := 0) (v := .int .i64 n.kind) (by omega) (by go_simp)
  have k1 := kept_cell hb1 (b := w.heap.size) (o := 1) (v := .int .i64 n.value) (by omega) (by go_simp)
  have k2 := kept_cell hb1 (b := w.heap.size) (o := 2) (v := .int .i64 n.left) (by omega) (by go_simp)
  have k3 := kept_cell hb1 (b := w.heap.size) (o := 3) (v := .int .i64 n.right) (by omega) (by go_simp)
  have HO1 := hid (owns_keep HOA.out hb1)
  have HB1 := hid (hb0.trans (hb1.mono hb0.size))
  have l1 : w.heap.size + 1 ≤ w1.heap.size := by have := hb1.size; omega
  clear HI HOA hRA d1 hsz hb1 hb0
  go_wp2
  have hown1 := HO1.out
  have hal : Below w1.heap.size w1 (w1.alloc (.cells #[.int .i64 n.kind, .int .i64 n.value, .int .i64 n.left, .int .i64 n.right] 143)).drew := ((Below.refl _ w1).alloc (Nat.le_refl _) _).drew
  have hlR : R < w1.heap.size := by omega
  have hlt0 : R < w.heap.size := hlt
  have hlB : w.heap.size < w1.heap.size := by omega
  go_region_law
    ((refine step_append_lies _ (by rfl) _ _ _ (by rfl) (R + 1) 143 j0 _ 4 32 Tryz.underlying40 hj hy0 hy1 hy2 rfl (by omega) (.slice a ns.length cap) ns.length (nvals ns) (by rfl) ((hown1.alloc _).drew)
        ⟨w1.heap.size, 0, none⟩ 1 1 (nval n) (by rfl) (by rfl) (World.news_of_block (cs := #[.int .i64 n.kind, .int .i64 n.value, .int .i64 n.left, .int .i64 n.right]) (t := 143) (fr := (0, 0)) (heap_alloc_new w1 _)) (by simp [nval, Value.oneCell'])
        (by omega) (by unfold maxLen; omega) (by omega) (by simp; omega) (w1.heap.size + 1) (by simp) ?_; intro gg cp w2 hown2 hgrow hat hlt; have z1 := grown_cell2 hgrow (kept_cell hal hlR u1) hneR; have z2 := grown_free2 hgrow (by simp; omega) (kept_free hal hlR uf) hneR; have HH2 : Hid (w2.heap[R]? = some (.cells #[.string (str rest), .slice a ns.length cap] 205 (0, 0))) := hid ((hgrow.block R (by simp; omega) (Ne.symm hneR)).trans ((hal.block R hlR).trans hR1)); have HB2 : Hid (Below R w w2) := hid ((((HB1.out.mono (Nat.le_of_lt hlt0)).alloc (by omega) _).drew).grown hgrow (by simp; omega) (fun b e => Nat.le_of_lt (own_lt hown1 e).1))))
  all_goals
    have HO2 := hid hown2
    clear hown2 hgrow hat hlt z1 z2 hown1 HO1 hal
    go_wp2
    go_ret2
    refine ⟨rfl, ⟨.slice (some ⟨gg, 0, none⟩) (ns.length + 1) cp, by simp [World.setCell, Array.getElem?_modify, HH2.out], ?_⟩, HB2.out.setCell (Nat.le_refl _) _⟩
    rw [List.length_append, nvals_snoc]
    exact ownsRow_setCell_below HO2.out (a := ⟨R, 1, none⟩) (Nat.lt_succ_self R) _
end Ex
end Go.Proofs.YtahkpgffoiaeiaaGreatDoor
/- The program's reading: takeNumber. -/
namespace Go.Proofs.YtahkpgffoiaeiaaGreatDoor
open Go.RowKit
set_option linter.unusedVariables false
namespace Ex
open Nd (NodeD)
theorem sl_pre (d r : List UInt8) (w : World) (hl : (d ++ r).length ≤ 1000) : Sem.run Tryz.prog (Instr.slice 9 (.string (str (d ++ r))) none (some (.int .i64 (IntKind.i64.wrap (((d ++ r).length : Int) - (r.length : Int))))) none) w = .ok (.string (str d)) w := by
  have e : IntKind.i64.wrap (((d ++ r).length : Int) - (r.length : Int)) = (d.length : Int) := by
    rw [List.length_append] at hl ⊢
    rw [IntWalk.i64_in _ (by omega)]
    omega
  rw [e]
  have hs : (str (d ++ r)).size = d.length + r.length := by rw [str_size, List.length_append]
  have hx : (str (d ++ r)).extract 0 d.length = str d := by
    apply ByteArray.ext
    simp [str]
  simp [Instr.slice, Instr.sliceBounds, Instr.sliceBound, run_underlying Tryz.underlying9, asIntOf, hs, hx]
theorem num_app {most : Nat} {d r : List UInt8} (hd : ∀ b ∈ d, isD b = true) (hr : stops r) : num most (d ++ r) = if numBad most d = true then none else some (valD d, r) := by
  unfold num
  obtain ⟨e1, e2⟩ := tw_append hd hr
  rw [e1, e2]
theorem form_leaf {k : Int} (hk : k = 1 ∨ k = 2) (n : Int) : form ⟨k, n, 0, 0⟩ = true := by
  rcases hk with rfl | rfl <;> simp [form, has, inR]
def numPost (most : Nat) (k : Int) (rest : List UInt8) (ns : List NodeD) (R : Nat) (e : Ending) (w' : World) : Prop :=
  (∃ (n : Nat) (r : List UInt8), num most rest = some (n, r) ∧ ns.length < 16 ∧ inside ⟨k, n, 0, 0⟩ ns.length = true ∧ e = .returned (.tuple #[.int .i64 (ns.length : Int), .bool true]) ∧ Rd w' R r (ns ++ [⟨k, n, 0, 0⟩])) ∨
  ((∀ (n : Nat) (r : List UInt8), num most rest = some (n, r) → ¬ (ns.length < 16 ∧ inside ⟨k, n, 0, 0⟩ ns.length = true)) ∧ e = .returned (.tuple #[.int .i64 0, .bool false]))
set_option maxRecDepth 100000 in
set_option maxHeartbeats 4000000 in
theorem implTakeNumber (R : Nat) (most : Nat) (k : Int) (d r : List UInt8) (ns : List NodeD) (w : World) (h : Rd w R (d ++ r) ns) (hk : k = 1 ∨ k = 2) (hd : ∀ b ∈ d, isD b = true) (hr : stops r) (hl : (d ++ r).length ≤ 1000) (h16 : ns.length ≤ 16) (h1 : 1 ≤ most) (h4 : most ≤ 4) :
    Calls Tryz.prog 128 #[.pointer (some ⟨R, 0, none⟩), .int .i64 k, .int .i64 (most : Int)] w fun e w' => numPost most k (d ++ r) ns R e w' ∧ Below R w w' := by
  obtain ⟨c0, f0, f1, a, cap, c1⟩ := h.c0
  have hlt := h.lt
  have HT := hid (implTrim (d ++ r) w)
  rw [(tw_append hd hr).2] at HT
  have HN := hid (fun w' => implNumber most d w' hd (by rw [List.length_append] at hl; omega) h1 h4)
  have HU := hid (num_app (most := most) hd hr)
  have HR := hid h
  have e1 : (str (d ++ r)).size = (d ++ r).length := str_size _
  have e2 : (str r).size = r.length := str_size _
  have hsl := fun w => sl_pre d r w hl
  clear h hd hr
  generalize hrest : d ++ r = rest at *
  have HRE := hid hrest
  clear hrest
  go_enter Tryz.func128, Tryz.ntmps128
  go_wp2_with fail
  refine HT.out.mono ?_
  rintro e w1 ⟨rfl, hb1⟩
  have d0 := kept_cell hb1 hlt c0
  have df := kept_free hb1 hlt f0
  have HR1 := hid (HR.out.below hb1)
  have hl1 : R < w1.heap.size := by have := hb1.size; omega
  have HB1 := hid (hb1.mono (Nat.le_of_lt hlt))
  clear c0 c1 f0 f1 HT hb1 HR
  generalize str rest = sr at *
  generalize str d = sd at *
  cases hnb : numBad most d
  · have HN2 : Hid (∀ w', Calls Tryz.prog 89 #[.string sd, .int .i64 (most : Int)] w' fun e w'' => e = .returned (.tuple #[.int .i64 (valD d : Int), .bool true]) ∧ w'' = w') := hid (fun w' => (HN.out w').mono (fun e w'' ⟨h1, h2⟩ => ⟨by
      rcases h1 with ⟨h3, _⟩ | ⟨_, h3⟩
      · rw [hnb] at h3; cases h3
      · exact h3, h2⟩))
    have HU2 : Hid (num most rest = some (valD d, r)) := hid (by rw [HU.out, hnb]; rfl)
    clear HN HU hnb
    generalize valD d = n at *
    go_wp2
    go_region_held3 (fun wx => wx.cell? ⟨R, 0, none⟩ = some (.string sr)) (first | assumption | (simp [*]; done)) (first | (go_at_call 89; refine (HN2.out _).mono ?_; rintro e w2 ⟨rfl, rfl⟩))
    have HRS : Hid (Rd (w1.drew.setCell ⟨R, 0, none⟩ (.string (str r))) R r ns) := hid (Rd.setRest (w := w1.drew) (show Rd w1.drew R rest ns from HR1.out) r)
    have HBS : Hid (Below R w (w1.drew.setCell ⟨R, 0, none⟩ (.string (str r)))) := hid (HB1.out.drew.setCell (Nat.le_refl _) _)
    have hlS : R < (w1.drew.setCell ⟨R, 0, none⟩ (.string (str r))).heap.size := by simpa [World.setCell] using hl1
    have hfm := form_leaf hk (n : Int)
    by_cases hg : ns.length < 16 ∧ inside ⟨k, (n : Int), 0, 0⟩ ns.length = true
    · have HA := hid (addGood R r ns ⟨k, (n : Int), 0, 0⟩ _ HRS.out hfm hg.1 hg.2)
      have HG := hid hg
      clear hfm hg
      go_wp2_with fail
      refine HA.out.mono ?_
      rintro e w3 ⟨rfl, hr3, hb3⟩
      have HR3 := hid hr3
      clear hr3
      go_wp2
      go_ret2
      exact ⟨.inl ⟨n, r, HU2.out, HG.out.1, HG.out.2, rfl, HR3.out⟩, HBS.out.trans hb3⟩
    · have HA := hid (addBad R r ns ⟨k, (n : Int), 0, 0⟩ _ HRS.out hfm h16 (by
        by_cases c : ns.length = 16
        · exact .inl c
        · refine .inr ?_
          cases hi : inside ⟨k, (n : Int), 0, 0⟩ ns.length
          · rfl
          · exact absurd ⟨by omega, hi⟩ hg))
      have HG := hid hg
      clear hfm hg
      go_wp2_with fail
      refine HA.out.mono ?_
      rintro e w3 ⟨rfl, hb3⟩
      go_wp2
      go_ret2
      refine ⟨.inr ⟨fun n' r' h => ?_, rfl⟩, HBS.out.trans (hb3.mono (Nat.le_of_lt hlS))⟩
      rw [HU2.out] at h
      cases h
      exact HG.out
  · have HN2 : Hid (∀ w', Calls Tryz.prog 89 #[.string sd, .int .i64 (most : Int)] w' fun e w'' => e = .returned (.tuple #[.int .i64 0, .bool false]) ∧ w'' = w') := hid (fun w' => (HN.out w').mono (fun e w'' ⟨h1, h2⟩ => ⟨by
      rcases h1 with ⟨_, h3⟩ | ⟨h3, _⟩
      · exact h3
      · exact absurd (h3.symm.trans hnb) (by decide), h2⟩))
    have HU2 : Hid (num most rest = none) := hid (by rw [HU.out, hnb]; rfl)
    clear HN HU hnb
    go_wp2
    go_region_held3 (fun wx => wx.cell? ⟨R, 0, none⟩ = some (.string sr)) (first | assumption | (simp [*]; done)) (first | (go_at_call 89; refine (HN2.out _).mono ?_; rintro e w2 ⟨rfl, rfl⟩))
    go_wp2
    go_ret2
    exact ⟨.inr ⟨fun n r' h => absurd (HU2.out.symm.trans h) (by simp), rfl⟩, HB1.out.drew⟩
end Ex
end Go.Proofs.YtahkpgffoiaeiaaGreatDoor
