/- PackLine, of the specification and of the program. No condition. -/
import Derived.Test.YtiliahibnhfhoaaJnD
namespace Go.Proofs.Ytiliahibnhfhoaa
open Go.RowKit
set_option linter.unusedVariables false
namespace Jn
/-- A code, and a row of bytes of one's own. -/
def RPost (c : Int) (l : List UInt8) (w : World) (e : Ending) (w' : World) : Prop := ∃ a k, e = .returned (.agg #[.int .i64 c, .slice a l.length k]) ∧ Ob w' w.heap.size (.slice a l.length k) l ∧ Below w.heap.size w w'
theorem retI {c d : Int} {v u : Value} (h : c = d) (h2 : v = u) : Ending.returned (.agg #[.int .i64 c, v]) = .returned (.agg #[.int .i64 d, u]) := by rw [h, h2]
theorem ob_set {w : World} {B b c : Nat} {v u : Value} {l : List UInt8} (h : Ob w B v l) (hb : b < B) : Ob (w.setCell ⟨b, c, none⟩ u) B v l := own_set h hb
theorem ob_mono {w : World} {B B' : Nat} {v : Value} {l : List UInt8} (h : Ob w B v l) (hb : B' ≤ B) : Ob w B' v l := own_mono h hb
theorem packR_bad {l : List UInt8} (h : faultC l ≠ 0) : packR l = [] := by unfold packR; rw [if_neg h]
theorem packR_ok {l : List UInt8} (h : faultC l = 0) : packR l = packL l := by unfold packR; rw [if_pos h]
set_option maxRecDepth 100000 in
set_option maxHeartbeats 2000000 in
theorem specPackLine (l : List UInt8) (w : World) (hl : l.length ≤ 1048576) : Calls Try.prog 15 #[.string (str l)] w (RPost (faultC l) (packR l) w) := by
  have hb0 : Below w.heap.size w (w.alloc (.cells #[.int .i64 0, .slice none 0 0] 26)) := (Below.refl _ w).alloc (Nat.le_refl _) _
  have HF := hid (fun w' => specLine l w' hl)
  have HP := hid (fun h w' => specPack l w' h)
  obtain ⟨f, hf⟩ : ∃ f, Hid (f = faultC l) := ⟨_, hid rfl⟩
  obtain ⟨t, ht⟩ : ∃ t, Hid (t = packR l) := ⟨_, hid rfl⟩
  rw [← hf.out, ← ht.out]
  rw [← hf.out] at HF
  have HX : Hid (f = 0 → t = packL l ∧ l.length ≤ 40) := hid (fun h => by
    have h1 : faultC l = 0 := by rw [← hf.out]; exact h
    exact ⟨by rw [ht.out, packR_ok h1], (fault_len h1).2⟩)
  have HY : Hid (f ≠ 0 → t = []) := hid (fun h => by rw [ht.out, packR_bad (by rw [← hf.out]; exact h)])
  have HB0 := hid hb0
  clear hb0 hf ht
  generalize str l = s at *
  unfold RPost
  go_enter Try.func15, Try.ntmps15
  go_wp2_with fail
  refine (HF.out _).mono ?_
  rintro e w1 ⟨rfl, hw⟩
  replace hw := hw.symm
  subst hw
  by_cases hz : f = 0
  · have b1 : (f != 0) = false := by simp [hz]
    obtain ⟨h1, h2⟩ := HX.out hz
    have HQ := hid (HP.out h2)
    have HT := hid h1
    have HZ := hid hz
    clear hz h1 h2
    go_wp2_with fail
    refine (HQ.out _).mono ?_
    rintro e w2 ⟨a2, c2, rfl, ho, hb⟩
    simp only [World.size_alloc] at hb ho
    have r0 := kept_cell hb (b := w.heap.size) (o := 0) (v := .int .i64 0) (by omega) (by go_simp)
    have r1 := kept_cell hb (b := w.heap.size) (o := 1) (v := .slice none 0 0) (by omega) (by go_simp)
    have f0 := kept_free hb (b := w.heap.size) (o := 0) (by omega) (by go_simp)
    have f1 := kept_free hb (b := w.heap.size) (o := 1) (by omega) (by go_simp)
    have B2 := hid (HB0.out.trans (hb.mono (by omega)))
    have HO := hid ho
    rw [← HT.out] at HO ⊢
    clear hb ho
    go_wp2
    refine bodyPost_ret (v := .agg #[.int .i64 0, .slice a2 t.length c2]) (by simp [results, Try.results15, go_sem, r0, r1]) rfl ⟨a2, c2, retI HZ.out.symm rfl, ?_, setB (setB B2.out (Nat.le_refl _) _) (Nat.le_refl _) _⟩
    exact ob_mono (ob_set (ob_set HO.out (by omega)) (by omega)) (by omega)
  · have b1 : (f != 0) = true := by simpa using hz
    have HE := hid (HY.out hz)
    clear hz
    go_wp2
    refine bodyPost_ret (v := .agg #[.int .i64 f, .slice none 0 0]) (by simp [results, Try.results15, go_sem]) rfl ⟨none, 0, retI rfl (by rw [HE.out]; rfl), by rw [HE.out]; exact ob_nil _ _, (Below.refl _ w).alloc (Nat.le_refl _) _⟩
set_option maxRecDepth 100000 in
set_option maxHeartbeats 4000000 in
theorem implPackLine (l : List UInt8) (w : World) (hl : l.length ≤ 1048576) : Calls Try.prog 16 #[.string (str l)] w (RPost (faultC l) (packR l) w) := by
  have hb0 : Below w.heap.size w (w.alloc (.cells #[.int .i64 0, .slice none 0 0] 26)) := (Below.refl _ w).alloc (Nat.le_refl _) _
  have HF := hid (fun w' => implLine l w' hl)
  obtain ⟨f, hf⟩ : ∃ f, Hid (f = faultC l) := ⟨_, hid rfl⟩
  obtain ⟨t, ht⟩ : ∃ t, Hid (t = packR l) := ⟨_, hid rfl⟩
  rw [← hf.out, ← ht.out]
  rw [← hf.out] at HF
  have HX : Hid (f = 0 → t = packL l ∧ l.length ≤ 40) := hid (fun h => by
    have h1 : faultC l = 0 := by rw [← hf.out]; exact h
    exact ⟨by rw [ht.out, packR_ok h1], (fault_len h1).2⟩)
  have HY : Hid (f ≠ 0 → t = []) := hid (fun h => by rw [ht.out, packR_bad (by rw [← hf.out]; exact h)])
  have HB0 := hid hb0
  clear hb0 hf ht
  obtain ⟨s, hs⟩ : ∃ s, Hid (s = str l) := ⟨_, hid rfl⟩
  rw [← hs.out] at HF ⊢
  unfold RPost
  go_enter Try.func16, Try.ntmps16
  go_wp2_with fail
  refine (HF.out _).mono ?_
  rintro e w1 ⟨rfl, hb⟩
  simp only [World.size_alloc] at hb
  have r0 := kept_cell hb (b := w.heap.size) (o := 0) (v := .int .i64 0) (by omega) (by go_simp)
  have r1 := kept_cell hb (b := w.heap.size) (o := 1) (v := .slice none 0 0) (by omega) (by go_simp)
  have f0 := kept_free hb (b := w.heap.size) (o := 0) (by omega) (by go_simp)
  have f1 := kept_free hb (b := w.heap.size) (o := 1) (by omega) (by go_simp)
  have hl1 : w.heap.size < w1.heap.size := by have := hb.size; simp at this; omega
  have B1 := hid (HB0.out.trans (hb.mono (by omega)))
  clear hb HF HB0
  by_cases hz : f = 0
  · have b1 : (f != 0) = false := by simp [hz]
    have HZ := hid hz
    obtain ⟨h1, h2⟩ := HX.out hz
    have HT := hid h1
    have hsz : (s.size : Int) ≤ 40 := by rw [hs.out, str_size]; omega
    have hv : Hid (Value.int .u8 (s.size : Int) = vb (by8 l.length)) := hid (by unfold vb; rw [by8_nat (by omega), hs.out, str_size])
    have HO1 : Hid (Ob (w1.alloc (.cells #[.int .u8 (s.size : Int)] 5)) w1.heap.size (.slice (some ⟨w1.heap.size, 0, none⟩) 1 1) [by8 l.length]) := hid (by rw [hv.out]; exact at_one w1 _)
    have HLL := hid h2
    clear hz h1 h2 HX HY
    go_upto_region 5 with (at_builtin; refine wpT _ rfl _ _ rfl w1.heap.size _ [by8 l.length] rfl HO1.out l (by show Value.string s = _; rw [hs.out]) (by rw [List.length_singleton]; have := HLL.out; omega) (by simp) ?_; intro p a3 c3 w3 hp ho hg; have HP := hid hp; have HO := hid ho; have HG := hid hg; clear hp ho hg)
    have hpl : Hid (p = headL l) := HP
    have hpb : p.length ≤ 41 := by rw [hpl.out, head_len]; have := HLL.out; omega
    have hB3 : Below w1.heap.size w1 w3 := ((Below.refl _ w1).alloc (Nat.le_refl _) _).grown HG.out (by simp) (fun b e => (HO1.out.lt b e).1)
    have r2 := kept_cell hB3 hl1 r0
    have r3 := kept_cell hB3 hl1 r1
    have f2 := kept_free hB3 hl1 f0
    have f3 := kept_free hB3 hl1 f1
    have B3 := hid (B1.out.trans (hB3.mono (by omega)))
    have hl3 : w1.heap.size ≤ w3.heap.size := hB3.size
    have HS := hid (implSum _ p _ w3 (by omega) HO.out.at)
    have hm := sum_lt p
    have HTT : Hid (t = p ++ [by8 (sumV p / 256), by8 (sumV p % 256)]) := hid (by rw [HT.out, hpl.out]; rfl)
    have HH := hid (fun w' => implHi (sumV p) w' (by omega))
    have HLO := hid (fun w' => implLo (sumV p) w' (by omega))
    have hv1 : Hid (Value.int .u8 ((sumV p / 256 : Nat) : Int) = vb (by8 (sumV p / 256))) := hid (by unfold vb; rw [by8_nat (by omega)])
    have hv2 : Hid (Value.int .u8 ((sumV p % 256 : Nat) : Int) = vb (by8 (sumV p % 256))) := hid (by unfold vb; rw [by8_nat (by omega)])
    have HA2 : Hid (At (w3.alloc (.cells #[.int .u8 ((sumV p / 256 : Nat) : Int), .int .u8 ((sumV p % 256 : Nat) : Int)] 5)) (w3.heap.size + 1) (.slice (some ⟨w3.heap.size, 0, none⟩) 2 2) [by8 (sumV p / 256), by8 (sumV p % 256)]) := hid (by rw [hv1.out, hv2.out]; have := (at_two w3 (by8 (sumV p / 256)) (by8 (sumV p % 256))).at; simpa using this)
    have HO2 : Hid (Ob (w3.alloc (.cells #[.int .u8 ((sumV p / 256 : Nat) : Int), .int .u8 ((sumV p % 256 : Nat) : Int)] 5)) w1.heap.size (.slice a3 p.length c3) p) := hid (HO.out.below ((Below.refl _ w3).alloc (Nat.le_refl _) _) (Nat.le_refl _))
    generalize sumV p / 256 = q at *
    generalize sumV p % 256 = r at *
    generalize cx (sumV p) = cs at *
    clear hB3 r0 r1 f0 f1 HG HO1
    go_wp2_with fail
    refine HS.out.mono ?_
    rintro e w4 ⟨rfl, hw⟩
    replace hw := hw.symm
    subst hw
    go_wp2_with fail
    refine (HH.out _).mono ?_
    rintro e w4 ⟨rfl, hw⟩
    replace hw := hw.symm
    subst hw
    go_wp2_with fail
    refine (HLO.out _).mono ?_
    rintro e w4 ⟨rfl, hw⟩
    replace hw := hw.symm
    subst hw
    go_wp2_with (at_builtin; refine wpL _ rfl _ _ rfl w1.heap.size _ p rfl HO2.out _ [by8 q, by8 r] _ rfl HA2.out (by simp; omega) (by simp; omega) ?_; intro p4 a4 c4 w4 hG; have hB4 := ((Below.refl w1.heap.size w3).alloc hl3 _).trans (hG.low HO2.out (by simp; omega)); have t0 := kept_cell hB4 hl1 r2; have t1 := kept_cell hB4 hl1 r3; have g0 := kept_free hB4 hl1 f2; have g1 := kept_free hB4 hl1 f3; have HG4 := hid hG; have B4 := hid (B3.out.trans (hB4.mono (by omega))); clear hG hB4)
    obtain rfl : p4 = t := by rw [HG4.out.eq, HTT.out]
    refine bodyPost_ret (v := .agg #[.int .i64 0, .slice a4 p4.length c4]) (by simp [results, Try.results16, go_sem, t0, t1]) rfl ⟨a4, c4, retI HZ.out.symm rfl, ?_, setB (setB B4.out (Nat.le_refl _) _) (Nat.le_refl _) _⟩
    exact ob_mono (ob_set (ob_set HG4.out.own hl1) hl1) (by omega)
  · have b1 : (f != 0) = true := by simpa using hz
    have HE := hid (HY.out hz)
    clear hz
    go_wp2
    refine bodyPost_ret (v := .agg #[.int .i64 f, .slice none 0 0]) (by simp [results, Try.results16, go_sem, r0, r1]) rfl ⟨none, 0, retI rfl (by rw [HE.out]; rfl), by rw [HE.out]; exact ob_nil _ _, setB (setB B1.out (Nat.le_refl _) _) (Nat.le_refl _) _⟩
end Jn
end Go.Proofs.Ytiliahibnhfhoaa
