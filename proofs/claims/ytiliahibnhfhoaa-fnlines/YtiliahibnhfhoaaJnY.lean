/- The lines that stay of bytes, and a journal counted, as the program does it; a journal counted by the specification. No condition. -/
import Derived.Test.YtiliahibnhfhoaaJnW
namespace Go.Proofs.Ytiliahibnhfhoaa
open Go.RowKit
set_option linter.unusedVariables false
namespace Jn
theorem ob_take {w : World} {B c : Nat} {a : Option Addr} {d : List UInt8} {n : Nat} (h : Ob w B (.slice a d.length c) d) (hn : n ≤ d.length) : Ob w B (.slice a (d.take n).length c) (d.take n) := by
  have hl : (d.take n).length = n := by rw [List.length_take]; omega
  obtain ⟨h1, h2⟩ := h
  refine ⟨by rw [vbs_len, hl]; omega, ?_⟩
  rcases h2 with ⟨e, h0⟩ | ⟨g, cap, cur, e, hB, hg, hc, hm, hs, ht⟩
  · have hd := List.eq_nil_of_length_eq_zero h0
    subst hd
    rw [List.take_nil]
    exact .inl ⟨e, rfl⟩
  · cases e
    refine .inr ⟨g, c, cur, rfl, hB, hg, by rw [hl]; omega, hm, hs, ?_⟩
    rw [hl]
    have : vbs (d.take n) = (vbs d).take n := by simp [vbs, List.map_take]
    rw [this, ← ht, List.take_take]
    congr 1
    omega
theorem ob_beyond {B c g : Nat} {l : List UInt8} : ∀ (vs : List Value) (o : Nat) (w : World), Ob w B (.slice (some ⟨g, 0, none⟩) l.length c) l → l.length ≤ o → Ob (w.setCells g o vs) B (.slice (some ⟨g, 0, none⟩) l.length c) l
  | [], o, w, h, _ => h
  | v :: vs, o, w, h, ho => by
    have h1 := (World.ownsRow.stored h o v).1
    rw [List.set_eq_of_length_le (by rw [vbs_len]; exact ho)] at h1
    exact ob_beyond vs (o + 1) _ h1 (by omega)
theorem below_cells {B g : Nat} (hg : B ≤ g) : ∀ (vs : List Value) (o : Nat) (w0 w : World), Below B w0 w → Below B w0 (w.setCells g o vs)
  | [], o, w0, w, h => h
  | v :: vs, o, w0, w, h => below_cells hg vs (o + 1) w0 _ (h.setCell hg v)
theorem clear_none (T : TypeId) (hT : T = 24) (a : Option Addr) (c : Nat) (ty : TypeId) (w : World) : Sem.run Try.prog (Builtin.clear_ #[T] ty #[.slice a 0 c]) w = .ok (.tuple #[]) w := by
  subst hT
  cases a <;> simp [Builtin.clear_, run_underlying (P := Try.prog) Try.underlying24]
theorem from_some (g m c n : Nat) (hn : n ≤ m) (hc : n < c) (w : World) : Sem.run Try.prog (Instr.slice 24 (.slice (some ⟨g, 0, none⟩) m c) (some (.int .i64 (n : Int))) none none) w = .ok (.slice (some ⟨g, n, none⟩) (m - n) (c - n)) w := by
  rw [run_slice_l (P := Try.prog) w 24 (some ⟨g, 0, none⟩) m c (by kernel_rfl) .i64 (n : Int) (by omega) (by omega), sized]
  simp only [Result.andThen, sliced, Int.toNat_natCast]
  rw [if_neg (by omega), Option.map_some, Nat.mul_one, addn, Nat.zero_add]
theorem zeroU8 (w : World) : Sem.run Try.prog (zeroValue 5) w = .ok (.int .u8 0) w := by kernel_rfl
set_option maxRecDepth 100000 in
set_option maxHeartbeats 4000000 in
theorem implWhole (B : Nat) (d : List UInt8) (v : Value) (w : World) (hd : d.length ≤ 1048576) (hB : B ≤ w.heap.size) (ho : Ob w B v d) :
    Calls Try.prog 71 #[v] w fun e w' => ∃ a c, e = .returned (.slice a (d.take (readL d).2).length c) ∧ Ob w' B (.slice a (d.take (readL d).2).length c) (d.take (readL d).2) ∧ Below B w w' := by
  obtain ⟨a, c, rfl⟩ := ho.slice
  have HL := hid (implLines w.heap.size d _ w hd (Nat.le_refl _) ho.at)
  have hrl := readL_le d
  unfold LPost at HL
  generalize (readL d).2 = n at *
  generalize (readL d).1 = ls at *
  have HO := hid ho
  obtain ⟨t, ht⟩ : ∃ t, Hid (t = d.take n) := ⟨_, hid rfl⟩
  rw [← ht.out]
  have htl : Hid (t.length = n) := hid (by rw [ht.out, List.length_take]; omega)
  clear ho
  go_enter Try.func71, Try.ntmps71
  go_wp2_with fail
  refine HL.out.mono ?_
  rintro e w1 ⟨a1, c1, rfl, _, hb1⟩
  have HB1 := hid (hb1.mono hB)
  have HO1 := hid (HO.out.below hb1 (Nat.le_refl _))
  have HT1 := hid (ob_take HO1.out hrl)
  rw [← ht.out] at HT1
  have hs1 := hb1.size
  clear hb1
  by_cases hn : n = d.length
  · obtain ⟨a2, c2, hsl, _⟩ := HO1.out.at.from n hrl
    obtain ⟨a3, hsl3, _, rfl⟩ := HO1.out.at.to n hrl
    have hz : d.length - n = 0 := by omega
    rw [hz] at hsl
    have hcl := fun ty w' => clear_none 24 rfl a2 c2 ty w'
    clear hz hn
    go_wp2
    go_ret
    exact ⟨a3, c, by rw [htl.out]; rfl, HT1.out, HB1.out⟩
  · obtain ⟨g, cap, e⟩ := owns_some HO1.out (by omega)
    cases e
    have hcap := (HO1.out.at.len).2
    have hsl := from_some g d.length c n hrl (by omega)
    obtain ⟨_, hsl3, _, rfl⟩ := HO1.out.at.to n hrl
    have hcl := fun ty => Lib.run_clear_slice (P := Try.prog) w1 24 5 ty (.int .u8 0) Try.underlying24 zeroU8 rfl rfl g n (d.length - n) (c - n) (by omega)
      (fun j hj => by obtain ⟨⟨u, hu⟩, _⟩ := owns_cell HO1.out (i := n + j) (by omega); rw [hu]; rfl) (fun j hj => (owns_cell HO1.out (i := n + j) (by omega)).2.1)
    have HG := hid (owns_cell HO1.out (i := n) (by omega)).2.2.1
    have HTC : Hid (Ob (w1.setCells g n (List.replicate (d.length - n) (.int .u8 0))) B (.slice (some ⟨g, 0, none⟩) t.length c) t) := hid (ob_beyond _ n w1 HT1.out (by rw [htl.out]; omega))
    have HBC : Hid (Below B w (w1.setCells g n (List.replicate (d.length - n) (.int .u8 0)))) := hid (below_cells HG.out _ n w w1 HB1.out)
    generalize w1.setCells g n (List.replicate (d.length - n) (.int .u8 0)) = w2 at *
    clear hn hcap
    go_wp2
    go_ret
    exact ⟨_, c, by rw [htl.out]; rfl, HTC.out, HBC.out⟩
theorem set4 {w : World} {b : Nat} {t : TypeId} {z0 z1 z2 z3 : Value} (h : w.heap[b]? = some (.cells #[z0, z1, z2, z3] t (0, 0))) (a0 a1 a2 a3 : Value) : ((((w.setCell ⟨b, 0, none⟩ a0).setCell ⟨b, 1, none⟩ a1).setCell ⟨b, 2, none⟩ a2).setCell ⟨b, 3, none⟩ a3).heap[b]? = some (.cells #[a0, a1, a2, a3] t (0, 0)) := by
  simp [World.setCell, Array.getElem?_modify, h]
theorem below4 {B : Nat} {x w : World} (h : Below B x w) {b : Nat} (hb : B ≤ b) (a0 a1 a2 a3 : Value) : Below B x ((((w.setCell ⟨b, 0, none⟩ a0).setCell ⟨b, 1, none⟩ a1).setCell ⟨b, 2, none⟩ a2).setCell ⟨b, 3, none⟩ a3) := setB (setB (setB (setB h hb _) hb _) hb _) hb _
theorem info4 : (Try.prog.info? 49).map (·.size) = some 4 := by kernel_rfl
def countN (s l : List UInt8) : Nat := (readL s).1.length + (readL l).1.length
set_option maxRecDepth 100000 in
set_option maxHeartbeats 4000000 in
theorem implCounted (B : Nat) (s l : List UInt8) (v1 v2 : Value) (w : World) (h1 : s.length ≤ 1048576) (h2 : l.length ≤ 1048576) (hB : B ≤ w.heap.size) (ha1 : At w B v1 s) (ha2 : At w B v2 l) :
    Calls Try.prog 66 #[.agg #[v1, v2]] w fun e w' => e = .returned (.agg #[.int .i64 0, .int .i64 (countN s l : Int), v1, v2]) ∧ Below w.heap.size w w' := by
  obtain ⟨a1, c1, rfl, _⟩ := ha1.slice
  obtain ⟨a2, c2, rfl, _⟩ := ha2.slice
  have hb0 : Below w.heap.size w ((w.alloc (.cells #[.slice a1 s.length c1, .slice a2 l.length c2] 44)).alloc (.cells #[.int .i64 0, .int .i64 0, .slice none 0 0, .slice none 0 0] 49)) := ((Below.refl _ w).alloc (Nat.le_refl _) _).alloc (by simp) _
  have HA1 := hid (fun w' (hb : Below w.heap.size w w') => implLines B s _ w' h1 (Nat.le_trans hB hb.size) (ha1.below hb hB))
  have HA2 := hid (fun w' (hb : Below w.heap.size w w') => implLines B l _ w' h2 (Nat.le_trans hB hb.size) (ha2.below hb hB))
  have HB0 := hid hb0
  have hn1 := readL_count s
  have hn2 := readL_count l
  unfold LPost at HA1 HA2
  have HC : Hid ((countN s l : Int) = ((readL s).1.length : Int) + ((readL l).1.length : Int)) := hid (by unfold countN; omega)
  rw [HC.out]
  generalize (readL s).2 = n at *
  generalize (readL s).1 = ls at *
  generalize (readL l).2 = m at *
  generalize (readL l).1 = ks at *
  clear hb0 ha1 ha2 HC
  go_enter Try.func66, Try.ntmps66
  go_wp2_with fail
  refine (HA1.out _ HB0.out).mono ?_
  rintro e w1 ⟨a3, c3, rfl, _, hb1⟩
  have B1 := HB0.out.trans (hb1.mono HB0.out.size)
  simp only [World.size_alloc] at hb1
  have p1 : w1.heap[w.heap.size]? = some (.cells #[.slice a1 s.length c1, .slice a2 l.length c2] 44 (0, 0)) := (hb1.block _ (by omega)).trans ((Below.heap_alloc _ _ _ (by simp)).trans (heap_alloc_new w _))
  have p2 : w1.heap[w.heap.size + 1]? = some (.cells #[.int .i64 0, .int .i64 0, .slice none 0 0, .slice none 0 0] 49 (0, 0)) := (hb1.block _ (by omega)).trans (by have := heap_alloc_new (w.alloc (.cells #[.slice a1 s.length c1, .slice a2 l.length c2] 44)) (.cells #[.int .i64 0, .int .i64 0, .slice none 0 0, .slice none 0 0] 49); simpa using this)
  have q1 := blk_cell p1 (o := 1) (v := .slice a2 l.length c2) rfl
  clear hb1
  go_wp2_with fail
  refine (HA2.out _ B1).mono ?_
  rintro e w2 ⟨a4, c4, rfl, _, hb2⟩
  have B2 := B1.trans (hb2.mono B1.size)
  have p3 := (hb2.block _ (blk_lt p1)).trans p1
  have p4 := (hb2.block _ (blk_lt p2)).trans p2
  have r0 := blk_cell p3 (o := 0) (v := .slice a1 s.length c1) rfl
  have r1 := blk_cell p3 (o := 1) (v := .slice a2 l.length c2) rfl
  have t0 := blk_cell p4 (o := 0) (v := .int .i64 0) rfl
  have t1 := blk_cell p4 (o := 1) (v := .int .i64 0) rfl
  have t2 := blk_cell p4 (o := 2) (v := .slice none 0 0) rfl
  have t3 := blk_cell p4 (o := 3) (v := .slice none 0 0) rfl
  have f0 := blk_free (o := 0) p4
  have f1 := blk_free (o := 1) p4
  have f2 := blk_free (o := 2) p4
  have f3 := blk_free (o := 3) p4
  have hB2 := hid B2
  have HK := hid p4
  clear hb2 p1 p2 q1 p3 p4 B1 B2
  go_wp2
  exact bodyPost_ret (results_cell_row Try.results66 _ _ (w.heap.size + 1) 49 #[.int .i64 0, .int .i64 ((ls.length : Int) + (ks.length : Int)), .slice a1 s.length c1, .slice a2 l.length c2] (0, 0) _ rfl (set4 HK.out _ _ _ _) Try.underlying49 rfl info4) rfl ⟨rfl, below4 hB2.out (by omega) _ _ _ _⟩
end Jn
end Go.Proofs.Ytiliahibnhfhoaa
