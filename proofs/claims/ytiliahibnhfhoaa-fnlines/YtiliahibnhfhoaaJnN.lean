/- The lines at the beginning of bytes, as the program and as the specification gather them. No condition. -/
import Derived.Test.YtiliahibnhfhoaaJnK
namespace Go.Proofs.Ytiliahibnhfhoaa
open Go.RowKit
set_option linter.unusedVariables false
namespace Jn
theorem infoS : (Try.prog.info? 9).map (fun i => (i.zero, i.size, i.bytes)) = some (some (.string ⟨#[]⟩), 1, 16) := by kernel_rfl
def strs (ls : List (List UInt8)) : List Value := ls.map fun s => .string (str s)
theorem strs_len (ls : List (List UInt8)) : (strs ls).length = ls.length := by simp [strs]
theorem strs_app (a b : List (List UInt8)) : strs (a ++ b) = strs a ++ strs b := by simp [strs]
/-- A row of texts of one's own. -/
def Os (w : World) (B : Nat) (v : Value) (ls : List (List UInt8)) : Prop := w.ownsRow B 9 1 v ls.length (strs ls)
theorem os_nil (w : World) (B : Nat) : Os w B (.slice none 0 0) [] := World.ownsRow_nil _ _ _ _
theorem Os.lt {w : World} {B : Nat} {v : Value} {l : List (List UInt8)} (h : Os w B v l) : ∀ b, v.ownBlock = some b → B ≤ b ∧ b < w.heap.size := World.ownsRow.lt h
theorem Os.below {w w' : World} {B C : Nat} {v : Value} {l : List (List UInt8)} (h : Os w B v l) (hb : Below C w w') (ho : w.heap.size ≤ C) : Os w' B v l := by
  obtain ⟨h1, h2⟩ := h
  refine ⟨h1, ?_⟩
  rcases h2 with h2 | ⟨g, cap, cur, a1, a2, a3, a4⟩
  · exact .inl h2
  · refine .inr ⟨g, cap, cur, a1, a2, ?_, a4⟩
    have hlt : g < w.heap.size := by
      rcases Nat.lt_or_ge g w.heap.size with h | h
      · exact h
      · rw [Array.getElem?_eq_none h] at a3; cases a3
    rw [hb.block g (by omega)]
    exact a3
theorem os_set {w : World} {B b c : Nat} {v u : Value} {l : List (List UInt8)} (h : Os w B v l) (hb : b < B) : Os (w.setCell ⟨b, c, none⟩ u) B v l := own_set h hb
theorem os_mono {w : World} {B B' : Nat} {v : Value} {l : List (List UInt8)} (h : Os w B v l) (hb : B' ≤ B) : Os w B' v l := own_mono h hb
theorem Os.slice {w : World} {B : Nat} {v : Value} {l : List (List UInt8)} (h : Os w B v l) : ∃ a cap, v = .slice a l.length cap := by
  obtain ⟨hl, ⟨rfl, h0⟩ | ⟨g', cap', cur, hv, _⟩⟩ := h
  · exact ⟨none, 0, by rw [h0]⟩
  · exact ⟨_, _, hv⟩
theorem os_made (w : World) : Os (w.alloc (.cells #[] 9)) w.heap.size (.slice (some ⟨w.heap.size, 0, none⟩) 0 0) [] := ⟨rfl, .inr ⟨w.heap.size, 0, #[], rfl, Nat.le_refl _, heap_alloc_new w _, Nat.le_refl _, by unfold maxLen; omega, rfl, rfl⟩⟩
theorem row_s (w : World) (s : ByteArray) : Ap.Row (w.alloc (.cells #[.string s] 9)) 1 (.slice (some ⟨w.heap.size, 0, none⟩) 1 1) 1 [.string s] :=
  ⟨_, _, rfl, rfl, (fun u hu => by simp at hu; rw [hu]; rfl), .inr ⟨_, rfl, World.news_of_block (cs := #[.string s]) (t := 9) (fr := (0, 0)) (heap_alloc_new w _)⟩⟩
theorem wpS (w : World) {ops : Array Oper} {rest : List Oper} {o : Oper} {a : Act} {Q : Exit → Act → World → Prop} (hgd : o.guard = none) (s x : Operand)
    (ho : o.op = .call { callee := .builtin .append, args := #[s, x], argTypes := #[30, 30] })
    (base : Nat) (v : Value) (ls : List (List UInt8)) (hs : a.eval s = v) (hown : Os w base v ls) (xv : Value) (z : List UInt8) (hx : a.eval x = xv) (hr : Ap.Row w 1 xv 1 [.string (str z)])
    (hz : ls.length ≤ 4194304) (hbase : base ≤ w.heap.size)
    (h : ∀ l a' c' w', l = ls ++ [z] → Os w' base (.slice a' l.length c') l → w.grownBy w' v.ownBlock → wpList Try.prog ops Q rest (a.put o.dst (.slice a' l.length c')) w') : wpList Try.prog ops Q (o :: rest) a w := by
  obtain ⟨i, hi, hi1, hi2, hi3⟩ := info_eq infoS
  refine Ap.wpList_any w hgd s x 30 ho base 9 i (.string ⟨#[]⟩) 1 16 Try.underlying30 hi hi1 hi2 hi3 rfl (by decide) v ls.length (strs ls) hs hown xv 1 [.string (str z)] hx hr (by unfold maxLen; omega) (by omega) hbase _ rfl ?_
  intro a' c' w' h1 h2 h3
  have e : ls.length + 1 = (ls ++ [z]).length := by simp
  rw [e]
  rw [e] at h1
  exact h (ls ++ [z]) a' c' w' rfl (by unfold Os; rw [strs_app]; exact h1) h2
/-- Lines of one's own, and how many bytes they take. -/
def LPost (r : List (List UInt8) × Nat) (w : World) (e : Ending) (w' : World) : Prop := ∃ a c, e = .returned (.tuple #[.slice a r.1.length c, .int .i64 (r.2 : Int)]) ∧ Os w' w.heap.size (.slice a r.1.length c) r.1 ∧ Below w.heap.size w w'
theorem lpost {ls : List (List UInt8)} {n : Nat} {r : List (List UInt8) × Nat} (h : r = (ls, n)) {w w' : World} {a : Option Addr} {c : Nat} {e : Ending} (he : e = .returned (.tuple #[.slice a ls.length c, .int .i64 (n : Int)])) (ho : Os w' w.heap.size (.slice a ls.length c) ls) (hb : Below w.heap.size w w') : LPost r w e w' := by
  subst h; exact ⟨a, c, he, ho, hb⟩
theorem read_at {d : List UInt8} {ls : List (List UInt8)} {k : Nat} (h : readL d = (ls ++ (readL (d.drop k)).1, k + (readL (d.drop k)).2)) :
    (oneN (d.drop k) = 0 → readL d = (ls, k)) ∧ (0 < oneN (d.drop k) → readL d = ((ls ++ [oneS (d.drop k)]) ++ (readL (d.drop (k + oneN (d.drop k)))).1, (k + oneN (d.drop k)) + (readL (d.drop (k + oneN (d.drop k)))).2)) := by
  constructor
  · intro h0
    rw [h, read_stop h0]
    simp
  · intro h0
    rw [h, read_step h0, List.drop_drop]
    simp [Nat.add_assoc]
set_option maxRecDepth 100000 in
set_option maxHeartbeats 4000000 in
theorem implLines (B : Nat) (d : List UInt8) (v : Value) (w : World) (hd : d.length ≤ 1048576) (hB : B ≤ w.heap.size) (ha : At w B v d) : Calls Try.prog 57 #[v] w (LPost (readL d) w) := by
  obtain ⟨a, c, rfl, hc⟩ := ha.slice
  have HA := hid ha
  clear ha
  obtain ⟨R, hR⟩ : ∃ R, Hid (R = LPost (readL d) w) := ⟨_, hid rfl⟩
  rw [← hR.out]
  go_enter Try.func57, Try.ntmps57
  go_wp2
  go_loopw [4, 5] (fun p q wr => ∃ (ls : List (List UInt8)) (k : Nat), q = .int .i64 (k : Int) ∧ k ≤ d.length ∧ ls.length ≤ k ∧ (∃ a5 c5, p = .slice a5 ls.length c5) ∧ Hid (Os wr w.heap.size p ls) ∧ Hid (readL d = (ls ++ (readL (d.drop k)).1, k + (readL (d.drop k)).2)) ∧ Hid (Below w.heap.size w wr)) (fun _ q _ => d.length - (intOf q).toNat)
  case atStart => exact ⟨[], 0, rfl, Nat.zero_le _, Nat.zero_le _, ⟨_, _, rfl⟩, hid (os_nil _ _), hid (by simp), hid (Below.refl _ _)⟩
  case round =>
    obtain ⟨ls, k, rfl, hk, hlk, ⟨a5, c5, rfl⟩, HO, HR, HBR⟩ := hrel
    obtain ⟨a6, c6, hsl, hat⟩ := (HA.out.below HBR.out hB).from k hk
    have HPA := hid (implAhead B (d.drop k) _ wr (by rw [List.length_drop]; omega) (Nat.le_trans hB HBR.out.size) (by have := hat; exact this))
    have HNX := hid (read_at HR.out)
    have hle := oneN_le (d.drop k)
    rw [List.length_drop] at hle
    unfold OPost at HPA
    generalize oneN (d.drop k) = n at *
    generalize oneS (d.drop k) = z at *
    clear hat
    go_wp2_with fail
    refine HPA.out.mono ?_
    rintro e w1 ⟨rfl, hb1⟩
    by_cases hz0 : n = 0
    · have b1 : ((n : Int) == 0) = true := beq_iff_eq.2 (by omega)
      have HX := hid (HNX.out.1 hz0)
      have HO1 := hid (HO.out.below hb1 (Nat.le_refl _))
      have HB1 := hid (HBR.out.trans (hb1.mono HBR.out.size))
      clear hz0 hb1 hsl
      go_wp2
      rw [hR.out]
      exact lpost (a := a5) (c := c5) HX.out (by rfl) HO1.out HB1.out
    · have b1 : ((n : Int) == 0) = false := beq_eq_false_iff_ne.2 (by omega)
      have HX := hid (HNX.out.2 (by omega))
      have hn0 : 0 < n := by omega
      have hB1 := HBR.out.trans (hb1.mono HBR.out.size)
      have HO1 : Hid (Os (w1.alloc (.cells #[.string (str z)] 9)) w.heap.size (.slice a5 ls.length c5) ls) := hid ((HO.out.below hb1 (Nat.le_refl _)).below ((Below.refl _ w1).alloc (Nat.le_refl _) _) (Nat.le_refl _))
      have HB1 : Hid (Below w.heap.size w (w1.alloc (.cells #[.string (str z)] 9))) := hid (hB1.alloc hB1.size _)
      have HRW := hid (row_s w1 (str z))
      have hs1 := HB1.out.size
      clear hz0 hb1 hsl hB1
      go_wp2_with (at_builtin; refine wpS _ rfl _ _ rfl w.heap.size _ ls rfl HO1.out _ z rfl HRW.out (by omega) hs1 ?_; intro l3 a3 c3 w3 hl3 ho3 hg3; have HL3 := hid hl3; have HO3 := hid ho3; have HG3 := hid hg3; have hll : l3.length = ls.length + 1 := (by rw [hl3, List.length_append]; rfl); have HLL := hid hll; clear hl3 ho3 hg3 hll)
      exact ⟨⟨l3, k + n, by simp, by omega, by have := HLL.out; omega, ⟨_, _, rfl⟩, HO3, hid (by rw [HL3.out]; exact HX.out), hid (HB1.out.grown HG3.out hs1 (fun b e => (HO1.out.lt b e).1))⟩, by simp [intOf]; omega⟩
set_option maxRecDepth 100000 in
set_option maxHeartbeats 4000000 in
theorem specLines (B : Nat) (d : List UInt8) (v : Value) (w : World) (hd : d.length ≤ 1048576) (hB : B ≤ w.heap.size) (ha : At w B v d) : Calls Try.prog 55 #[v] w (LPost (readL d) w) := by
  obtain ⟨a, c, rfl, hc⟩ := ha.slice
  have HA := hid ha
  clear ha
  obtain ⟨R, hR⟩ : ∃ R, Hid (R = LPost (readL d) w) := ⟨_, hid rfl⟩
  rw [← hR.out]
  go_enter Try.func55, Try.ntmps55
  go_wp2
  go_loopw [4, 5] (fun p q wr => ∃ (ls : List (List UInt8)) (k : Nat), q = .int .i64 (k : Int) ∧ k ≤ d.length ∧ ls.length ≤ k ∧ (∃ a5 c5, p = .slice a5 ls.length c5) ∧ Hid (Os wr w.heap.size p ls) ∧ Hid (readL d = (ls ++ (readL (d.drop k)).1, k + (readL (d.drop k)).2)) ∧ Hid (Below w.heap.size w wr)) (fun _ q _ => d.length - (intOf q).toNat)
  case atStart => exact ⟨[], 0, rfl, Nat.zero_le _, Nat.zero_le _, ⟨_, _, rfl⟩, hid (os_made _), hid (by simp), hid ((Below.refl _ w).alloc (Nat.le_refl _) _)⟩
  case round =>
    obtain ⟨ls, k, rfl, hk, hlk, ⟨a5, c5, rfl⟩, HO, HR, HBR⟩ := hrel
    obtain ⟨a6, c6, hsl, hat⟩ := (HA.out.below HBR.out hB).from k hk
    have HPA := hid (specOne B (d.drop k) _ wr (by rw [List.length_drop]; omega) (Nat.le_trans hB HBR.out.size) (by have := hat; exact this))
    have HNX := hid (read_at HR.out)
    have hle := oneN_le (d.drop k)
    rw [List.length_drop] at hle
    unfold OPost at HPA
    generalize oneN (d.drop k) = n at *
    generalize oneS (d.drop k) = z at *
    clear hat
    go_wp2_with fail
    refine HPA.out.mono ?_
    rintro e w1 ⟨rfl, hb1⟩
    by_cases hz0 : n = 0
    · have b1 : ((n : Int) == 0) = true := beq_iff_eq.2 (by omega)
      have HX := hid (HNX.out.1 hz0)
      have HO1 := hid (HO.out.below hb1 (Nat.le_refl _))
      have HB1 := hid (HBR.out.trans (hb1.mono HBR.out.size))
      clear hz0 hb1 hsl
      go_wp2
      rw [hR.out]
      exact lpost (a := a5) (c := c5) HX.out (by rfl) HO1.out HB1.out
    · have b1 : ((n : Int) == 0) = false := beq_eq_false_iff_ne.2 (by omega)
      have HX := hid (HNX.out.2 (by omega))
      have hn0 : 0 < n := by omega
      have hB1 := HBR.out.trans (hb1.mono HBR.out.size)
      have HO1 : Hid (Os (w1.alloc (.cells #[.string (str z)] 9)) w.heap.size (.slice a5 ls.length c5) ls) := hid ((HO.out.below hb1 (Nat.le_refl _)).below ((Below.refl _ w1).alloc (Nat.le_refl _) _) (Nat.le_refl _))
      have HB1 : Hid (Below w.heap.size w (w1.alloc (.cells #[.string (str z)] 9))) := hid (hB1.alloc hB1.size _)
      have HRW := hid (row_s w1 (str z))
      have hs1 := HB1.out.size
      clear hz0 hb1 hsl hB1
      go_wp2_with (at_builtin; refine wpS _ rfl _ _ rfl w.heap.size _ ls rfl HO1.out _ z rfl HRW.out (by omega) hs1 ?_; intro l3 a3 c3 w3 hl3 ho3 hg3; have HL3 := hid hl3; have HO3 := hid ho3; have HG3 := hid hg3; have hll : l3.length = ls.length + 1 := (by rw [hl3, List.length_append]; rfl); have HLL := hid hll; clear hl3 ho3 hg3 hll)
      exact ⟨⟨l3, k + n, by simp, by omega, by have := HLL.out; omega, ⟨_, _, rfl⟩, HO3, hid (by rw [HL3.out]; exact HX.out), hid (HB1.out.grown HG3.out hs1 (fun b e => (HO1.out.lt b e).1))⟩, by simp [intOf]; omega⟩
end Jn
end Go.Proofs.Ytiliahibnhfhoaa
