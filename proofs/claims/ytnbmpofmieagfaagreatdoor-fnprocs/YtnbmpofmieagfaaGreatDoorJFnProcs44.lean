/- What the specification draws of processes: l1Word and l4Make: whatever is drawn, it is a list of steps of small parts, in memory of its own. -/
import Derived.Test.YtnbmpofmieagfaaGreatDoorJFnProcs12
import Derived.Test.YtnbmpofmieagfaaGreatDoorJFnProcs43
import Derived.Deep.Cut
import Derived.Deep.CutRange
import Derived.Deep.CutBlock
namespace Go.Proofs.YtnbmpofmieagfaaGreatDoor
open Go.RowKit
set_option linter.unusedVariables false
namespace Dp
open Ex (hid nvals)
open Nd (NodeD)
open St (StepD)
open Nst (own)
open So (SOwn SAt SJ SJ_eq scell)
open DqE (Bx code_src code_bx code_alloc src_alloc src_below src_grown)
theorem blk_cell {w : World} {b : Nat} {cs : Array Value} {t : TypeId} {fr : Nat × Nat} (h : w.heap[b]? = some (.cells cs t fr)) (i : Nat) : w.cell? ⟨b, i, none⟩ = cs[i]? := by simp [World.cell?, h]
theorem blk_free {w : World} {b : Nat} {cs : Array Value} {t : TypeId} (h : w.heap[b]? = some (.cells cs t)) (i : Nat) : w.frozen? ⟨b, i, none⟩ = false := by simp [World.frozen?, h]
theorem blk_set {w : World} {b i : Nat} {cs : Array Value} {t : TypeId} (h : w.heap[b]? = some (.cells cs t)) (v : Value) : (w.setCell ⟨b, i, none⟩ v).heap[b]? = some (.cells (cs.setIfInBounds i v) t) := by
  simp [World.setCell, Array.getElem?_modify, h]
theorem blk_lt {w : World} {b : Nat} {o : Obj} (h : w.heap[b]? = some o) : b < w.heap.size := (Array.getElem?_eq_some_iff.1 h).1
theorem sown_src {w w' : World} {S : Nat} {v : Value} {ss : List StepD} (h : SOwn w (S + 1) v ss) (hg : w.grownBy w' (some S)) : SOwn w' (S + 1) v ss := h.keep (fun b hb hl => hg.block b hl (fun e => by cases e; omega))
theorem sown_bx {w w' : World} {S : Nat} {v : Value} {ss : List StepD} (h : SOwn w (S + 1) v ss) (hg : Bx S w.heap.size w w') : SOwn w' (S + 1) v ss := h.keep (fun b hb hl => hg.block b hl (by omega))
theorem below_bx {S Q : Nat} {w0 w w' : World} (h : Below S w0 w) (hg : Bx S Q w w') (hS : S < Q) : Below S w0 w' := h.trans (hg.lower (Nat.le_of_lt hS))
theorem below_src {S : Nat} {w0 w w' : World} (h : Below S w0 w) (hg : w.grownBy w' (some S)) (hS : S < w.heap.size) : Below S w0 w' := h.trans ((Below.refl S w).grown hg (Nat.le_of_lt hS) (fun b e => by cases e; exact Nat.le_refl _))
theorem code_low {B len S : Nat} {w w' : World} {a : Option Addr} (h : Drw.CodeAt B w a len) (hb : Below S w w') (hB : B ≤ S) : Drw.CodeAt B w' a len := by
  rcases h with h | ⟨b, off, rfl, hb2, hc⟩
  · exact .inl h
  · refine .inr ⟨b, off, rfl, hb2, fun i hi => ?_⟩
    obtain ⟨z, hz, hcz⟩ := hc i hi
    exact ⟨z, hz, (World.cell?_of_block (a := ⟨b, off + i, none⟩) (hb.block b (by omega))).trans hcz⟩
theorem src_other {w : World} {S len cap pos g i : Nat} {a : Option Addr} {v : Value} (h : Drw.Src w S a len cap pos) (hne : S ≠ g) : Drw.Src (w.setCell ⟨g, i, none⟩ v) S a len cap pos := (Below.heap_setCell _ _ _ _ (by dsimp only; omega)).trans h
theorem code_set {B len g i : Nat} {w : World} {a : Option Addr} {v : Value} (h : Drw.CodeAt B w a len) (hg : B ≤ g) : Drw.CodeAt B (w.setCell ⟨g, i, none⟩ v) a len := by
  rcases h with h | ⟨b, off, rfl, hb2, hc⟩
  · exact .inl h
  · refine .inr ⟨b, off, rfl, hb2, fun i hi => ?_⟩
    obtain ⟨z, hz, hcz⟩ := hc i hi
    exact ⟨z, hz, (World.cell?_of_block (a := ⟨b, off + i, none⟩) (Below.heap_setCell _ _ _ _ (by dsimp only; omega))).trans hcz⟩
def words : Array Value := #[.string ⟨#[97]⟩, .string ⟨#[116, 97, 115, 107]⟩, .string ⟨#[115, 101, 113]⟩, .string ⟨#[105, 100]⟩, .string ⟨#[98]⟩]
theorem word_at {w : World} {r : Nat} (h : r < 5) : ∃ s : ByteArray, s.size ≤ 8 ∧ (w.alloc (.cells words 9)).cell? ⟨w.heap.size, r, none⟩ = some (.string s) := by
  obtain rfl | rfl | rfl | rfl | rfl : r = 0 ∨ r = 1 ∨ r = 2 ∨ r = 3 ∨ r = 4 := by omega
  · exact ⟨⟨#[97]⟩, by decide, by rw [World.cell?_alloc_new]; rfl⟩
  · exact ⟨⟨#[116, 97, 115, 107]⟩, by decide, by rw [World.cell?_alloc_new]; rfl⟩
  · exact ⟨⟨#[115, 101, 113]⟩, by decide, by rw [World.cell?_alloc_new]; rfl⟩
  · exact ⟨⟨#[105, 100]⟩, by decide, by rw [World.cell?_alloc_new]; rfl⟩
  · exact ⟨⟨#[98]⟩, by decide, by rw [World.cell?_alloc_new]; rfl⟩
set_option maxRecDepth 100000 in
set_option maxHeartbeats 2000000 in
theorem word (B S len cap pos : Nat) (a : Option Addr) (w : World) (hs : Drw.Src w S a len cap pos) (hc : Drw.CodeAt B w a len) (hBS : B ≤ S) (hln : len ≤ 2000000) (hp : pos ≤ 900000) :
    Calls Tryz.prog 89 #[.pointer (some ⟨S, 0, none⟩)] w fun e w' => ∃ s : ByteArray, s.size ≤ 8 ∧ e = .returned (.string s) ∧ Drw.Src w' S a len cap (pos + 1) ∧ Bx S w.heap.size w w' := by
  have HSa := hid (src_alloc hs (.cells words 9))
  have HCa := hid (code_alloc hc (.cells words 9))
  have HBa := hid ((Bx.refl S (Nat.le_refl w.heap.size)).alloc (.cells words 9))
  have hl := hs.lt
  have HW := hid (fun r (h : r < 5) => word_at (w := w) h)
  have hz : (w.alloc (.cells words 9)).heap.size = w.heap.size + 1 := by simp
  have hzl : w.heap.size < (w.alloc (.cells words 9)).heap.size := by omega
  clear hs hc hz
  unfold words at *
  go_enter Tryz.func89, Tryz.ntmps89
  go_wp2_with fail
  refine (Drw.next B S len cap pos 5 a _ HSa.out HCa.out hBS hln (by omega) (by omega) (by omega)).mono ?_
  rintro e w1 ⟨r, hr, rfl, hs1, hg1⟩
  obtain ⟨s, hs8, hcs⟩ := HW.out r hr
  have c1 : w1.cell? ⟨w.heap.size, r, none⟩ = some (.string s) := (World.cell?_of_block (a := ⟨w.heap.size, r, none⟩) (hg1.block w.heap.size hzl (fun e => by cases e; omega))).trans hcs
  have HS1 := hid hs1
  have HB1 := hid (HBa.out.src hg1)
  have q1 : (r : Int) < 5 := by omega
  clear hs1 hg1 hcs HSa HCa HBa HW
  go_wp2
  go_ret
  exact ⟨s, hs8, rfl, HS1.out, HB1.out⟩
def small (ss : List StepD) : Prop := ∀ s ∈ ss, St.Small1 40 s
/-- What l4Make does at a depth: it puts at most so many steps behind the others, and reads at most so many bytes. -/
def MP (B S len cap : Nat) (a : Option Addr) (d : Int) (sz K : Nat) : Prop := ∀ (ss : List StepD) (v : Value) (pos : Nat) (par : Int) (w : World), Drw.Src w S a len cap pos → Drw.CodeAt B w a len → SOwn w (S + 1) v ss → small ss → ss.length + sz ≤ 300 → pos + K ≤ 800000 →
  Calls Tryz.prog 62 #[.pointer (some ⟨S, 0, none⟩), v, .int .i64 par, .int .i64 d] w fun e w' => ∃ (ss' : List StepD) (u : Value) (pos' : Nat), ss.length + 1 ≤ ss'.length ∧ ss'.length ≤ ss.length + sz ∧ small ss' ∧ e = .returned u ∧ SOwn w' (S + 1) u ss' ∧ Drw.Src w' S a len cap pos' ∧ pos' ≤ pos + K ∧ Below S w w'
theorem k6 {w : World} {z0 z1 z2 z3 z4 z5 : Int} : ∀ (i : Nat) (z : Int), ([z0, z1, z2, z3, z4, z5] : List Int)[i]? = some z → (w.alloc (.cells #[.int .i64 z0, .int .i64 z1, .int .i64 z2, .int .i64 z3, .int .i64 z4, .int .i64 z5] 2)).cell? ⟨w.heap.size, i, none⟩ = some (.int .i64 z)
  | 0, z, h => by cases h; go_simp
  | 1, z, h => by cases h; go_simp
  | 2, z, h => by cases h; go_simp
  | 3, z, h => by cases h; go_simp
  | 4, z, h => by cases h; go_simp
  | 5, z, h => by cases h; go_simp
  | i + 6, z, h => by simp at h
theorem k4 {w : World} {z0 z1 z2 z3 : Int} : ∀ (i : Nat) (z : Int), ([z0, z1, z2, z3] : List Int)[i]? = some z → (w.alloc (.cells #[.int .i64 z0, .int .i64 z1, .int .i64 z2, .int .i64 z3] 2)).cell? ⟨w.heap.size, i, none⟩ = some (.int .i64 z)
  | 0, z, h => by cases h; go_simp
  | 1, z, h => by cases h; go_simp
  | 2, z, h => by cases h; go_simp
  | 3, z, h => by cases h; go_simp
  | i + 4, z, h => by simp at h
/-- The step that is being filled: its block, and the row of its expression. -/
def XB (w : World) (X : Nat) (kd par : Int) : Prop := ∃ (nm : ByteArray) (ar : Int) (ex : List NodeD) (ve : Value), nm.size ≤ 8 ∧ ex.length ≤ 16 ∧ w.heap[X]? = some (.cells #[.int .i64 kd, .int .i64 par, .string nm, .int .i64 ar, .slice none 0 0, ve] 53) ∧ w.ownsRow (X + 1) 110 4 ve ex.length (nvals ex)
theorem small_push {ss : List StepD} {s : StepD} (h : small ss) (hs : St.Small1 40 s) : small (ss ++ [s]) := fun x hx => by
  rcases List.mem_append.1 hx with h1 | h1
  · exact h x h1
  · rw [List.mem_singleton.1 h1]; exact hs
theorem small_cond {ss : List StepD} {j : Nat} {l : List NodeD} (h : small ss) (hj : j < ss.length) (hl : l.length ≤ 16) : small (So.withCond ss j l) := fun x hx => by
  rcases List.mem_or_eq_of_mem_set hx with h1 | h1
  · exact h x h1
  · have h2 := h _ (List.getElem_mem hj)
    rw [h1, SJ_eq hj]
    exact ⟨h2.1, by show (l.length : Int) ≤ 40; omega, h2.2.2⟩
set_option maxRecDepth 100000 in
set_option maxHeartbeats 16000000 in
theorem make (B S len cap : Nat) (a : Option Addr) (hBS : B ≤ S) (hln : len ≤ 2000000) (d : Int) (sz K : Nat) (hd : 0 ≤ d) (hd2 : d ≤ 10) (hM : 0 < d → MP B S len cap a (d - 1) sz K) : MP B S len cap a d (3 * sz + 1) (3 * K + 700) := by
  intro ss v pos par w hs hc ho hsm hn hp
  obtain ⟨j0, hj, hy0, hy1, hy2⟩ := info_parts So.infoStep
  obtain ⟨av, cv, rfl⟩ := ho.slice
  have HM := hid hM
  have HSM := hid hsm
  have HS := hid hs
  have HC := hid hc
  have HO := hid ho
  have hl := hs.lt
  clear hs hc ho hM hsm
  go_enter Tryz.func62, Tryz.ntmps62
  have HSa := hid (src_alloc HS.out (.cells #[.int .i64 2, .int .i64 2, .int .i64 5, .int .i64 6, .int .i64 7, .int .i64 7] 2))
  have HCa := hid (code_alloc HC.out (.cells #[.int .i64 2, .int .i64 2, .int .i64 5, .int .i64 6, .int .i64 7, .int .i64 7] 2))
  have HBa := hid ((Bx.refl S (Nat.le_refl w.heap.size)).alloc (.cells #[.int .i64 2, .int .i64 2, .int .i64 5, .int .i64 6, .int .i64 7, .int .i64 7] 2))
  go_wp2_with fail
  refine (Drw.pick B S len cap pos w.heap.size 6 [2, 2, 5, 6, 7, 7] a _ HSa.out HCa.out hBS hln (by omega) rfl (by omega) (by omega) (by omega) (by simp) k6).mono ?_
  rintro e w1 ⟨z, hz, rfl, hs1, hg1⟩
  have hz1 : z = 2 ∨ z = 5 ∨ z = 6 ∨ z = 7 := by simp at hz; omega
  have HB1 : Hid (Bx S w.heap.size w w1) := hid (HBa.out.src hg1)
  have HC1 := hid (code_src HCa.out hg1 hBS)
  have HS1 := hid hs1
  have hl1 := hs1.lt
  clear hs1 hg1 hz HSa HCa HBa
  go_upto_region 3 with fail
  go_cut [25] from 15 (fun s25 wx => ∃ b : Bool, s25 = .bool b ∧ (b = true → 0 < d) ∧ wx = w1)
  case first =>
    by_cases hdp : 0 < d
    · by_cases ha : (ss.length : Int) < 14
      · go_wp2_with fail
        go_meet
        exact ⟨true, rfl, fun _ => hdp, rfl⟩
      · go_wp2_with fail
        go_meet
        exact ⟨false, rfl, fun h => (by cases h), rfl⟩
    · go_wp2_with fail
      go_meet
      exact ⟨false, rfl, fun h => (by cases h), rfl⟩
  case rest =>
    obtain ⟨b, rfl, hb, hwc⟩ := hcut
    replace hwc := hwc.symm
    subst hwc
    go_upto_if 25 with fail
    go_cut [10] from 15 (fun s10 wx => ∃ (kd : Int) (p : Nat), s10 = .int .i64 kd ∧ (1 ≤ kd ∧ kd ≤ 8 ∧ (kd = 2 ∨ kd = 5 ∨ kd = 6 ∨ kd = 7 ∨ 0 < d)) ∧ p ≤ pos + 3 ∧ Hid (Drw.Src wx S a len cap p) ∧ Hid (Drw.CodeAt B wx a len) ∧ Hid (Bx S w.heap.size w wx))
    case first =>
      cases b
      · go_wp2_with fail
        go_meet
        exact ⟨z, pos + 1, rfl, by omega, by omega, HS1, HC1, HB1⟩
      · have hdp := hb rfl
        have HSa := hid (src_alloc HS1.out (.cells #[.int .i64 1, .int .i64 3, .int .i64 4, .int .i64 8, .int .i64 2, .int .i64 7] 2))
        have HCa := hid (code_alloc HC1.out (.cells #[.int .i64 1, .int .i64 3, .int .i64 4, .int .i64 8, .int .i64 2, .int .i64 7] 2))
        have HBa := hid (HB1.out.alloc (.cells #[.int .i64 1, .int .i64 3, .int .i64 4, .int .i64 8, .int .i64 2, .int .i64 7] 2))
        go_wp2_with fail
        refine (Drw.pick B S len cap (pos + 1) w1.heap.size 6 [1, 3, 4, 8, 2, 7] a _ HSa.out HCa.out hBS hln (by omega) rfl (by omega) (by omega) (by omega) (by simp) k6).mono ?_
        rintro e w2 ⟨z2, hz2, rfl, hs2, hg2⟩
        have hz3 : 1 ≤ z2 ∧ z2 ≤ 8 := by simp at hz2; omega
        have HB2 := hid (HBa.out.src hg2)
        have HC2 := hid (code_src HCa.out hg2 hBS)
        have HS2 := hid hs2
        have hl2 := hs2.lt
        clear hs2 hg2 hz2 HSa HCa HBa
        by_cases hpar : par < 0
        · have HSa := hid (src_alloc HS2.out (.cells #[.int .i64 1, .int .i64 1, .int .i64 4, .int .i64 8] 2))
          have HCa := hid (code_alloc HC2.out (.cells #[.int .i64 1, .int .i64 1, .int .i64 4, .int .i64 8] 2))
          have HBa := hid (HB2.out.alloc (.cells #[.int .i64 1, .int .i64 1, .int .i64 4, .int .i64 8] 2))
          go_wp2_with fail
          refine (Drw.pick B S len cap (pos + 1 + 1) w2.heap.size 4 [1, 1, 4, 8] a _ HSa.out HCa.out hBS hln (by omega) rfl (by omega) (by omega) (by omega) (by simp) k4).mono ?_
          rintro e w3 ⟨z4, hz4, rfl, hs3, hg3⟩
          have hz5 : 1 ≤ z4 ∧ z4 ≤ 8 := by simp at hz4; omega
          have HB3 := hid (HBa.out.src hg3)
          have HC3 := hid (code_src HCa.out hg3 hBS)
          have HS3 := hid hs3
          clear hs3 hg3 hz4 HSa HCa HBa
          go_wp2_with fail
          go_meet
          exact ⟨z4, pos + 1 + 1 + 1, rfl, ⟨hz5.1, hz5.2, .inr (.inr (.inr (.inr hdp)))⟩, Nat.le_refl _, HS3, HC3, HB3⟩
        · have hpb : decide (par < 0) = false := decide_eq_false hpar
          clear hpar
          go_wp2_with fail
          go_meet
          exact ⟨z2, pos + 1 + 1, rfl, ⟨hz3.1, hz3.2, .inr (.inr (.inr (.inr hdp)))⟩, Nat.le_succ _, HS2, HC2, HB2⟩
    case rest =>
      obtain ⟨kd, p, rfl, hkd, hp3, HSc, HCc, HBc⟩ := hcut
      obtain ⟨w4, hw4⟩ : ∃ x, x = wc := ⟨_, rfl⟩
      subst hw4
      have hl4 := HSc.out.lt
      have hsz4 := HBc.out.size
      have HKD := hid hkd
      have hblk0 := heap_alloc_new w4 (.cells #[.int .i64 kd, .int .i64 par, .string ⟨#[]⟩, .int .i64 0, .slice none 0 0, .slice none 0 0] 53)
      have HSx := hid (src_alloc HSc.out (.cells #[.int .i64 kd, .int .i64 par, .string ⟨#[]⟩, .int .i64 0, .slice none 0 0, .slice none 0 0] 53))
      have HCx := hid (code_alloc HCc.out (.cells #[.int .i64 kd, .int .i64 par, .string ⟨#[]⟩, .int .i64 0, .slice none 0 0, .slice none 0 0] 53))
      have HBx := hid ((Bx.refl S (Nat.le_refl w4.heap.size)).alloc (.cells #[.int .i64 kd, .int .i64 par, .string ⟨#[]⟩, .int .i64 0, .slice none 0 0, .slice none 0 0] 53))
      clear hkd hz1 hb HS1 HC1 HB1 HS HC hl1
      go_upto_block 0 with fail
      generalize w4.alloc (.cells #[.int .i64 kd, .int .i64 par, .string ⟨#[]⟩, .int .i64 0, .slice none 0 0, .slice none 0 0] 53) = wx at *
      have HBK := hid hblk0
      have hXl := blk_lt hblk0
      clear hblk0
      go_cut [11] from 15 (fun s11 wy => s11 = .pointer (some ⟨w4.heap.size, 0, none⟩) ∧ ∃ p2 : Nat, p2 ≤ p + 103 ∧ Hid (XB wy w4.heap.size kd par) ∧ Hid (Drw.Src wy S a len cap p2) ∧ Hid (Drw.CodeAt B wy a len) ∧ Hid (Bx S w4.heap.size w4 wy))
      case first =>
        have hkd := HKD.out
        by_cases k2 : kd = 2
        · subst k2
          go_wp2_with fail
          refine (word B S len cap p a _ HSx.out HCx.out hBS hln (by omega)).mono ?_
          rintro e w5 ⟨nm, hnm, rfl, hs5, hb5⟩
          have hq5 := (hb5.block w4.heap.size hXl (by omega)).trans HBK.out
          have c2 : w5.cell? ⟨w4.heap.size, 2, none⟩ = some (.string ⟨#[]⟩) := blk_cell hq5 2
          have f2 := blk_free hq5 2
          have HB5 := hid (HBx.out.trans (hb5.mono HBx.out.top))
          have HC5 := hid (code_bx HCx.out hb5 hBS (by omega))
          have HS5 := hid hs5
          have HQ5 := hid hq5
          clear hs5 hb5 hq5
          go_wp2_with fail
          go_meet
          exact ⟨rfl, p + 1, by omega, hid ⟨nm, 0, [], .slice none 0 0, hnm, by simp, blk_set HQ5.out _, World.ownsRow_nil _ _ _ 4⟩, hid (src_other HS5.out (by omega)), hid (code_set HC5.out (by omega)), hid (HB5.out.setCell (Nat.le_refl _) _)⟩
        have n2 : (kd == 2) = false := by simpa using k2
        by_cases k5 : kd = 5
        · subst k5
          go_wp2_with fail
          refine (Drw.next B S len cap p 3 a _ HSx.out HCx.out hBS hln (by omega) (by omega) (by omega)).mono ?_
          rintro e w5 ⟨r, hr, rfl, hs5, hg5⟩
          have hq5 := (hg5.block w4.heap.size hXl (fun e => by cases e; omega)).trans HBK.out
          have c2 : w5.cell? ⟨w4.heap.size, 3, none⟩ = some (.int .i64 0) := blk_cell hq5 3
          have f2 := blk_free hq5 3
          have HB5 := hid (HBx.out.src hg5)
          have HC5 := hid (code_src HCx.out hg5 hBS)
          have HS5 := hid hs5
          have HQ5 := hid hq5
          clear hs5 hg5 hq5
          go_wp2_with fail
          go_meet
          exact ⟨rfl, p + 1, by omega, hid ⟨⟨#[]⟩, r, [], .slice none 0 0, by decide, by simp, blk_set HQ5.out _, World.ownsRow_nil _ _ _ 4⟩, hid (src_other HS5.out (by omega)), hid (code_set HC5.out (by omega)), hid (HB5.out.setCell (Nat.le_refl _) _)⟩
        have n5 : (kd == 5) = false := by simpa using k5
        by_cases k68 : kd = 6 ∨ kd = 8
        · have HN := hid (Drw.next B S len cap p 6 a _ HSx.out HCx.out hBS hln (by omega) (by omega) (by omega))
          rcases k68 with rfl | rfl
          all_goals
            go_wp2_with fail
            refine HN.out.mono ?_
            rintro e w5 ⟨r, hr, rfl, hs5, hg5⟩
            have hq5 := (hg5.block w4.heap.size hXl (fun e => by cases e; omega)).trans HBK.out
            have c2 : w5.cell? ⟨w4.heap.size, 3, none⟩ = some (.int .i64 0) := blk_cell hq5 3
            have f2 := blk_free hq5 3
            have HB5 := hid (HBx.out.src hg5)
            have HC5 := hid (code_src HCx.out hg5 hBS)
            have HS5 := hid hs5
            have HQ5 := hid hq5
            clear hs5 hg5 hq5
            go_wp2_with fail
            go_meet
            exact ⟨rfl, p + 1, by omega, hid ⟨⟨#[]⟩, 1 + (r : Int), [], .slice none 0 0, by decide, by simp, blk_set HQ5.out _, World.ownsRow_nil _ _ _ 4⟩, hid (src_other HS5.out (by omega)), hid (code_set HC5.out (by omega)), hid (HB5.out.setCell (Nat.le_refl _) _)⟩
        have n6 : (kd == 6) = false := by simp; omega
        have n8 : (kd == 8) = false := by simp; omega
        clear k68
        by_cases k7 : kd = 7
        · subst k7
          go_wp2_with fail
          refine (Drw.next B S len cap p 3 a _ HSx.out HCx.out hBS hln (by omega) (by omega) (by omega)).mono ?_
          rintro e w5 ⟨r, hr, rfl, hs5, hg5⟩
          have hq5 := (hg5.block w4.heap.size hXl (fun e => by cases e; omega)).trans HBK.out
          have c2 : w5.cell? ⟨w4.heap.size, 3, none⟩ = some (.int .i64 0) := blk_cell hq5 3
          have f2 := blk_free hq5 3
          have HQ5 : Hid ((w5.setCell ⟨w4.heap.size, 3, none⟩ (.int .i64 (r : Int))).heap[w4.heap.size]? = some (.cells #[.int .i64 7, .int .i64 par, .string ⟨#[]⟩, .int .i64 (r : Int), .slice none 0 0, .slice none 0 0] 53)) := hid (blk_set hq5 _)
          have HB5 := hid ((HBx.out.src hg5).setCell (i := 3) (Nat.le_refl _) (.int .i64 (r : Int)))
          have HC5 := hid (code_set (g := w4.heap.size) (i := 3) (v := .int .i64 (r : Int)) (code_src HCx.out hg5 hBS) (by omega))
          have HS5 := hid (src_other (g := w4.heap.size) (i := 3) (v := .int .i64 (r : Int)) hs5 (by omega))
          clear hs5 hg5 hq5
          go_wp2_with fail
          generalize w5.setCell ⟨w4.heap.size, 3, none⟩ (.int .i64 (r : Int)) = w6 at *
          have hl6 := blk_lt HQ5.out
          refine (DqE.draw B S w6.heap.size len cap (p + 1) a 1 _ hBS (by omega) (Nat.le_refl _) hln (.inl rfl) HS5.out HC5.out (by omega)).mono ?_
          rintro e w7 ⟨tm, u, pos', hok, hsz, rfl, ho, hs7, hp7, hb7⟩
          obtain ⟨au, cu, rfl⟩ := Nst.own_slice ho
          have hq7 := (hb7.block w4.heap.size hl6 (by omega)).trans HQ5.out
          have c5 : w7.cell? ⟨w4.heap.size, 5, none⟩ = some (.slice none 0 0) := blk_cell hq7 5
          have f5 := blk_free hq7 5
          have HB7 := hid (HB5.out.trans (hb7.mono HB5.out.top))
          have HC7 := hid (code_bx HC5.out hb7 hBS (by omega))
          have HS7 := hid hs7
          have HQ7 := hid hq7
          have HO7 := hid ho
          have hnl := Ex.nodes_len tm 0
          have HNL := hid hnl
          clear hs7 hb7 hq7 ho hok hnl
          go_wp2_with fail
          go_meet
          exact ⟨rfl, pos', by omega, hid ⟨⟨#[]⟩, r, tm.nodes 0, .slice au tm.size cu, by decide, by rw [HNL.out]; omega, blk_set HQ7.out _, by rw [HNL.out]; exact Nst.own_mono (ownsRow_setCell_below HO7.out (a := ⟨w4.heap.size, 5, none⟩) hl6 _) (by omega)⟩, hid (src_other HS7.out (by omega)), hid (code_set HC7.out (by omega)), hid (HB7.out.setCell (Nat.le_refl _) _)⟩
        have n7 : (kd == 7) = false := by simpa using k7
        go_wp2_with fail
        go_meet
        exact ⟨rfl, p, by omega, hid ⟨⟨#[]⟩, 0, [], .slice none 0 0, by decide, by simp, HBK.out, World.ownsRow_nil _ _ _ 4⟩, HSx, HCx, HBx⟩
      case rest =>
        obtain ⟨rfl, p2, hp2, HXB, HSy, HCy, HBy⟩ := hcut
        obtain ⟨w5, hw5⟩ : ∃ x, x = wc := ⟨_, rfl⟩
        subst hw5
        obtain ⟨nm, ar, ex, ve, hnm, hex, hq5, he5⟩ := HXB.out
        obtain ⟨ae, ce, rfl⟩ := Nst.own_slice he5
        have c0 : w5.cell? ⟨w4.heap.size, 0, none⟩ = some (.int .i64 kd) := blk_cell hq5 0
        have c1 : w5.cell? ⟨w4.heap.size, 1, none⟩ = some (.int .i64 par) := blk_cell hq5 1
        have c2 : w5.cell? ⟨w4.heap.size, 2, none⟩ = some (.string nm) := blk_cell hq5 2
        have c3 : w5.cell? ⟨w4.heap.size, 3, none⟩ = some (.int .i64 ar) := blk_cell hq5 3
        have c4 : w5.cell? ⟨w4.heap.size, 4, none⟩ = some (.slice none 0 0) := blk_cell hq5 4
        have c5 : w5.cell? ⟨w4.heap.size, 5, none⟩ = some (.slice ae ex.length ce) := blk_cell hq5 5
        have HE5 := hid he5
        have HB5 : Hid (Bx S w.heap.size w w5) := hid (HBc.out.trans (HBy.out.mono hsz4))
        have l5 := HB5.out.size
        obtain ⟨C, E, hF⟩ := HO.out
        have HEF := hid hF
        have HRW := hid (Nst.own_kept hF.row (fun b hb => HB5.out.block b (Nst.own_lt hF.row hb).2 (by have := (Nst.own_lt hF.row hb).1; omega)))
        have HSS : Hid (St.Small1 40 ⟨kd, par, nm, ar, [], ex⟩) := hid ⟨by show (nm.size : Int) ≤ 40; omega, by simp, by show (ex.length : Int) ≤ 40; omega⟩
        have hl5 := blk_lt hq5
        clear hq5 he5 hF HXB HBK HSx HCx HBx HSc HCc
        go_upto_block 1 with (at_builtin; go_must (refine wpList_append_own_at _ rfl _ _ 24 rfl (S + 1) 53 j0 (.agg #[.int .i64 0, .int .i64 0, .string ⟨#[]⟩, .int .i64 0, .slice none 0 0, .slice none 0 0]) 6 88 Tryz.underlying24 hj hy0 hy1 hy2 rfl (by decide) _ _ _ rfl (HRW.out.alloc _) ⟨w5.heap.size, 0, none⟩ 1 1 [.int .i64 kd, .int .i64 par, .string nm, .int .i64 ar, .slice none 0 0, .slice ae ex.length ce] rfl rfl (So.news #[.int .i64 kd, .int .i64 par, .string nm, .int .i64 ar, .slice none 0 0, .slice ae ex.length ce] _ _ (by simp)) (by simp [Value.oneCell']) (by unfold maxLen; omega) (by omega) (by simp; omega) ?_); intro v9 w9 hown9 hg9 _ hat9; obtain ⟨a9, c9, rfl⟩ := Nst.own_slice hown9)
        have HBa := hid (HB5.out.alloc (.cells #[.int .i64 kd, .int .i64 par, .string nm, .int .i64 ar, .slice none 0 0, .slice ae ex.length ce] 53))
        have HO9 : Hid (SOwn w9 (S + 1) (.slice a9 (ss.length + 1) c9) (ss ++ [⟨kd, par, nm, ar, [], ex⟩])) := hid (So.push_at (vc := .slice none 0 0) (ve := .slice ae ex.length ce) HEF.out (by omega) (fun b hb1 hb2 => HBa.out.block b hb2 (by omega)) HBa.out.size (World.ownsRow_nil _ _ _ 4) (Nst.own_mono (HE5.out.alloc _) (by omega)) (fun b h => by simp [own, Value.ownBlock] at h) hown9 hg9 hat9)
        have hrow : ∀ b, Value.ownBlock (.slice av ss.length cv) = some b → S + 1 ≤ b := fun b e => (Nst.own_lt HRW.out e).1
        have HS9 := hid (src_grown (src_alloc HSy.out (.cells #[.int .i64 kd, .int .i64 par, .string nm, .int .i64 ar, .slice none 0 0, .slice ae ex.length ce] 53)) hg9 (fun e => by have := hrow _ e; omega))
        have HC9 := hid (Drw.CodeAt.grown (code_alloc HCy.out (.cells #[.int .i64 kd, .int .i64 par, .string nm, .int .i64 ar, .slice none 0 0, .slice ae ex.length ce] 53)) hg9 (by simp; omega) (fun b e => by have := hrow b e; omega))
        have HB9 : Hid (Below S w w9) := hid ((HBa.out.lower (by omega)).grown hg9 (by simp; omega) (fun b e => by have := hrow b e; omega))
        have HSM9 := hid (small_push HSM.out HSS.out)
        have hln9 : (ss ++ [(⟨kd, par, nm, ar, [], ex⟩ : StepD)]).length = ss.length + 1 := by simp
        generalize hs9 : ss ++ [(⟨kd, par, nm, ar, [], ex⟩ : StepD)] = ss9 at *
        clear hs9 hown9 hg9 hat9 hrow HBa HEF HRW HE5 HSS HB5 HBy HBc HSy HCy HO c0 c1 c2 c3 c4 c5
        go_cut [12] from 15 (fun s12 wy => ∃ (n p3 : Nat), s12 = .int .i64 n ∧ n ≤ 3 ∧ (0 < n → 0 < d) ∧ p3 ≤ p2 + 1 ∧ Hid (Drw.Src wy S a len cap p3) ∧ Hid (w9.grownBy wy (some S)))
        case first =>
          have hkd := HKD.out
          by_cases k1 : kd = 1
          · subst k1
            go_wp2_with fail
            refine (Drw.next B S len cap p2 3 a _ HS9.out HC9.out hBS hln (by omega) (by omega) (by omega)).mono ?_
            rintro e wa ⟨r, hr, rfl, hs5, hg5⟩
            have HSa := hid hs5
            have HGa := hid hg5
            clear hs5 hg5
            go_wp2_with fail
            go_meet
            exact ⟨1 + r, p2 + 1, by simp, by omega, fun _ => by omega, Nat.le_refl _, HSa, HGa⟩
          have n1 : (kd == 1) = false := by simpa using k1
          by_cases k34 : kd = 3 ∨ kd = 4
          · have HN := hid (Drw.next B S len cap p2 2 a _ HS9.out HC9.out hBS hln (by omega) (by omega) (by omega))
            rcases k34 with rfl | rfl
            all_goals
              go_wp2_with fail
              refine HN.out.mono ?_
              rintro e wa ⟨r, hr, rfl, hs5, hg5⟩
              have HSa := hid hs5
              have HGa := hid hg5
              clear hs5 hg5
              go_wp2_with fail
              go_meet
              exact ⟨2 + r, p2 + 1, by simp, by omega, fun _ => by omega, Nat.le_refl _, HSa, HGa⟩
          have n3 : (kd == 3) = false := by simp; omega
          have n4 : (kd == 4) = false := by simp; omega
          clear k34
          by_cases k8 : kd = 8
          · subst k8
            go_wp2_with fail
            go_meet
            exact ⟨2, p2, rfl, by omega, fun _ => by omega, Nat.le_succ _, HS9, hid (Drw.grown_refl _ _)⟩
          have n8 : (kd == 8) = false := by simpa using k8
          go_wp2_with fail
          go_meet
          exact ⟨0, p2, rfl, by omega, fun h => (by omega), Nat.le_succ _, HS9, hid (Drw.grown_refl _ _)⟩
        case rest =>
          obtain ⟨n, p3, rfl, hn3, hnd, hp33, HSc, HGc⟩ := hcut
          obtain ⟨w6, hw6⟩ : ∃ x, x = wc := ⟨_, rfl⟩
          subst hw6
          have HO6 := hid (sown_src HO9.out HGc.out)
          have HC6 := hid (code_src HC9.out HGc.out hBS)
          have HB6 := hid (below_src HB9.out HGc.out HS9.out.lt)
          have HND := hid hnd
          clear HGc HS9 HC9 HB9 HO9 hnd
          go_wp2_with fail
          go_loopw [1, 13, 14] (fun pv k f wr => ∃ (j p4 : Nat) (st : List StepD), k = .int .i64 j ∧ (∃ f0, f = f0) ∧ (∃ a7 c7, pv = .slice a7 st.length c7) ∧ j ≤ n ∧ ss.length + 1 ≤ st.length ∧ st.length ≤ ss.length + 1 + j * sz ∧ p4 ≤ p3 + j * (K + 110) ∧ Hid (small st) ∧ Hid (SOwn wr (S + 1) pv st) ∧ Hid (Drw.Src wr S a len cap p4) ∧ Hid (Drw.CodeAt B wr a len) ∧ Hid (Below S w wr)) (fun _ k _ _ => n - (intOf k).toNat)
          case atStart => exact ⟨0, p3, ss9, rfl, ⟨_, rfl⟩, ⟨_, _, by rw [hln9]⟩, Nat.zero_le _, by omega, by omega, by omega, HSM9, HO6, HSc, HC6, HB6⟩
          case round =>
            obtain ⟨j, p4, st, rfl, ⟨f0, rfl⟩, ⟨a7, c7, rfl⟩, hjn, hst1, hst2, hp4, HSMr, HOr, HSr, HCr, HBr⟩ := hrel
            have hjs : j * sz ≤ 3 * sz := Nat.mul_le_mul_right sz (by omega)
            have hjk : j * (K + 110) ≤ 3 * (K + 110) := Nat.mul_le_mul_right (K + 110) (by omega)
            by_cases hlt : j < n
            · have q1 : (j : Int) < (n : Int) := by omega
              have hjs2 : j * sz ≤ 2 * sz := Nat.mul_le_mul_right sz (by omega)
              have hjk2 : j * (K + 110) ≤ 2 * (K + 110) := Nat.mul_le_mul_right (K + 110) (by omega)
              have hjs3 : (j + 1) * sz = j * sz + sz := Nat.succ_mul j sz
              have hjk3 : (j + 1) * (K + 110) = j * (K + 110) + (K + 110) := Nat.succ_mul j (K + 110)
              have HB3 : Hid (st.length + sz ≤ 300 ∧ p4 + K ≤ 800000) := hid (by omega)
              have HMd := hid (HM.out (HND.out (by omega)) st _ p4 (ss.length : Int) wr HSr.out HCr.out HOr.out HSMr.out HB3.out.1 HB3.out.2)
              have HJ : Hid ((j + 1) * sz = j * sz + sz ∧ (j + 1) * (K + 110) = j * (K + 110) + (K + 110)) := hid ⟨hjs3, hjk3⟩
              clear hjs3 hjk3
              go_wp2_with fail
              refine HMd.out.mono ?_
              rintro e w7 ⟨st7, u7, p7, h71, h72, hsm7, rfl, ho7, hs7, hp7, hb7⟩
              obtain ⟨a8, c8, rfl⟩ := ho7.slice
              have hl7 := hs7.lt
              have HC7 := hid (code_low HCr.out hb7 hBS)
              have HB7 := hid (HBr.out.trans hb7)
              have HS7 := hid hs7
              have HO7 := hid ho7
              have HSM7 := hid hsm7
              clear hs7 ho7 hb7 hsm7 HMd HOr HSr HCr HBr HSMr
              by_cases hx : kd = 3 ∧ j + 1 < n
              · obtain ⟨rfl, hj1⟩ := hx
                have q3 : (j : Int) + 1 < (n : Int) := by omega
                obtain ⟨C, E, hF⟩ := HO7.out
                obtain ⟨g, cg, hsl, hgB, hgl, hgc, hgm⟩ := Nst.own_some hF.row (by omega)
                cases hsl
                have HF := hid hF
                have hfl : st.length < st7.length := by omega
                have q4 : (st.length : Int) < (st7.length : Int) := by omega
                have HDR := hid (DqE.draw B S w7.heap.size len cap p7 a 2 w7 hBS hl7 (Nat.le_refl _) hln (.inr rfl) HS7.out HC7.out (by omega))
                clear hF HO7
                go_wp2_with fail
                refine HDR.out.mono ?_
                rintro e w8 ⟨tm, u, p8, hok, hsz, rfl, ho8, hs8, hp8, hb8⟩
                obtain ⟨au, cu, rfl⟩ := Nst.own_slice ho8
                have hF8 := HF.out.keep (fun b hb1 hb2 => hb8.block b hb2 (by omega))
                have c4 : w8.cell? ⟨g, st.length * 6 + 4, none⟩ = some (C st.length) := hF8.cell (fun j _ => So.scell_len _ _ _) hfl (i := 4) (by omega)
                have f4 := hF8.free (st.length * 6 + 4)
                obtain ⟨ac, cc, hcs⟩ : ∃ ac cc, C st.length = .slice ac (st7[st.length]'hfl).cond.length cc := Nst.own_slice (So.SAt.cond HF.out hfl)
                rw [hcs] at c4
                have hnl := Ex.nodes_len tm 0
                have HO8 : Hid (SOwn (w8.setCell ⟨g, st.length * 6 + 4, none⟩ (.slice au tm.size cu)) (S + 1) (.slice (some ⟨g, 0, none⟩) st7.length c8) (So.withCond st7 st.length (tm.nodes 0))) := hid (So.cond_at HF.out (by omega) hfl (fun b hb1 hb2 => hb8.block b hb2 (by omega)) (by rw [hnl]; exact ho8))
                have HSM8 := hid (small_cond HSM7.out hfl (l := tm.nodes 0) (by omega))
                have HL8 := hid (So.withCond_len st7 st.length (tm.nodes 0))
                have HS8 := hid (src_other (g := g) (i := st.length * 6 + 4) (v := .slice au tm.size cu) hs8 (by omega))
                have HC8 := hid (code_set (g := g) (i := st.length * 6 + 4) (v := .slice au tm.size cu) (code_bx HC7.out hb8 hBS hl7) (by omega))
                have HB8 : Hid (Below S w (w8.setCell ⟨g, st.length * 6 + 4, none⟩ (.slice au tm.size cu))) := hid ((HB7.out.trans (hb8.lower (by omega))).setCell (p := ⟨g, st.length * 6 + 4, none⟩) (show S ≤ g by omega) _)
                clear ho8 hs8 hb8 hok hF8 hcs hnl HDR HF
                go_wp2
                have hJ := HJ.out
                have hL := HL8.out
                exact ⟨⟨j + 1, p8, So.withCond st7 st.length (tm.nodes 0), by simp, ⟨_, rfl⟩, ⟨_, _, by rw [hL]⟩, by omega, by omega, by omega, by omega, HSM8, HO8, HS8, HC8, HB8⟩, by simp [intOf]; omega⟩
              · have HFIN : Hid (st7.length ≤ ss.length + 1 + (j + 1) * sz ∧ p7 ≤ p3 + (j + 1) * (K + 110)) := hid (by have := HJ.out; omega)
                by_cases k3 : kd = 3
                · subst k3
                  have q3 : decide ((j : Int) + 1 < (n : Int)) = false := decide_eq_false (by omega)
                  clear hx
                  go_wp2
                  exact ⟨⟨j + 1, p7, st7, by simp, ⟨_, rfl⟩, ⟨_, _, rfl⟩, by omega, by omega, HFIN.out.1, HFIN.out.2, HSM7, HO7, HS7, HC7, HB7⟩, by simp [intOf]; omega⟩
                · have n3 : (kd == 3) = false := by simpa using k3
                  clear hx k3
                  go_wp2
                  exact ⟨⟨j + 1, p7, st7, by simp, ⟨_, rfl⟩, ⟨_, _, rfl⟩, by omega, by omega, HFIN.out.1, HFIN.out.2, HSM7, HO7, HS7, HC7, HB7⟩, by simp [intOf]; omega⟩
            · have q1 : ¬ (j : Int) < (n : Int) := by omega
              have q2 : decide ((j : Int) < (n : Int)) = false := decide_eq_false q1
              have HFIN : Hid (ss.length + 1 ≤ st.length ∧ st.length ≤ ss.length + (3 * sz + 1) ∧ p4 ≤ pos + (3 * K + 700)) := hid (by omega)
              clear q1
              go_wp2
              go_ret
              exact ⟨st, _, p4, HFIN.out.1, HFIN.out.2.1, HSMr.out, rfl, HOr.out, HSr.out, HFIN.out.2.2, HBr.out⟩
end Dp
end Go.Proofs.YtnbmpofmieagfaaGreatDoor
