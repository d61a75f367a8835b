/- Laid together: JnD, JnE, JnF, JnG. -/
import Derived.Test.YtccklgopcjilcaaGreatDoorJWF18
import Derived.Lib.AppendStr
import Derived.IntWalk
import Derived.Deep.CutRange
import Derived.Deep.Cut
import Derived.Deep.QuietTactic
import Derived.BigQuiet
import Derived.Laws.MakeOwn
/- A line packed, by the specification and by the program; rows of bytes that grow. No condition. -/
namespace Go.Proofs.YtccklgopcjilcaaGreatDoor
open Go.RowKit
set_option linter.unusedVariables false
namespace Jn
theorem info8 : (Tryz.prog.info? 5).map (fun i => (i.zero, i.size, i.bytes)) = some (some (.int .u8 0), 1, 1) := by kernel_rfl
theorem info_eq {t : TypeId} {z : Option Value} {s b : Nat} (h : (Tryz.prog.info? t).map (fun i => (i.zero, i.size, i.bytes)) = some (z, s, b)) : ∃ i, Tryz.prog.info? t = some i ∧ i.zero = z ∧ i.size = s ∧ i.bytes = b := by
  cases hi : Tryz.prog.info? t with
  | none => rw [hi] at h; cases h
  | some i =>
    rw [hi] at h
    simp only [Option.map_some, Option.some.injEq, Prod.mk.injEq] at h
    exact ⟨i, rfl, h.1, h.2.1, h.2.2⟩
/-- A row of bytes of one's own. -/
def Ob (w : World) (B : Nat) (v : Value) (l : List UInt8) : Prop := w.ownsRow B 5 1 v l.length (vbs l)
theorem Ob.at {w : World} {B : Nat} {v : Value} {l : List UInt8} (h : Ob w B v l) : At w w.heap.size v l := at_own h
theorem ob_nil (w : World) (B : Nat) : Ob w B (.slice none 0 0) [] := World.ownsRow_nil _ _ _ _
theorem row_at {w : World} {B : Nat} {v : Value} {l : List UInt8} (h : At w B v l) : Ap.Row w 1 v l.length (vbs l) := by
  obtain ⟨a, c, rfl, hc, hcell⟩ := h
  refine ⟨a, c, rfl, by rw [vbs_len]; omega, vbs_one l, ?_⟩
  cases l with
  | nil => exact .inl rfl
  | cons x xs =>
    right
    obtain ⟨g, o, rfl, _, _⟩ := hcell 0 (by simp)
    refine ⟨_, rfl, fun j u hu => ?_⟩
    have hj : j < (x :: xs).length := by
      have := (List.getElem?_eq_some_iff.1 hu).1
      rw [vbs_len] at this
      exact this
    obtain ⟨g', o', hg, _, hcl⟩ := hcell j hj
    cases hg
    rw [vbs_get hj] at hu
    cases hu
    rw [addn]
    exact hcl
/-- What a row of bytes is behind an append. -/
structure Grown (w : World) (base : Nat) (v : Value) (l1 l2 : List UInt8) (v' : Value) (l : List UInt8) (w' : World) : Prop where
  eq : l = l1 ++ l2
  own : Ob w' base v' l
  grown : w.grownBy w' v.ownBlock
  blk : v'.ownBlock = v.ownBlock ∨ v'.ownBlock = some w.heap.size
theorem Grown.below {w w' : World} {base B : Nat} {v v' : Value} {l1 l2 l : List UInt8} (h : Grown w base v l1 l2 v' l w') (ho : ∀ b, v.ownBlock = some b → B ≤ b) (hB : B ≤ w.heap.size) : Below B w w' :=
  (Below.refl B w).grown h.grown hB ho
theorem Ob.lt {w : World} {B : Nat} {v : Value} {l : List UInt8} (h : Ob w B v l) : ∀ b, v.ownBlock = some b → B ≤ b ∧ b < w.heap.size := World.ownsRow.lt h
theorem Grown.low {w w' : World} {base : Nat} {v v' : Value} {l1 l2 l : List UInt8} (h : Grown w base v l1 l2 v' l w') (ho : Ob w base v l1) (hB : base ≤ w.heap.size) : Below base w w' :=
  h.below (fun b e => (ho.lt b e).1) hB
theorem wpL (w : World) {ops : Array Oper} {rest : List Oper} {o : Oper} {a : Act} {Q : Exit → Act → World → Prop} (hgd : o.guard = none) (s x : Operand)
    (ho : o.op = .call { callee := .builtin .append, args := #[s, x], argTypes := #[31, 31] })
    (base : Nat) (v : Value) (l1 : List UInt8) (hs : a.eval s = v) (hown : Ob w base v l1) (xv : Value) (l2 : List UInt8) (B : Nat) (hx : a.eval x = xv) (hr : At w B xv l2)
    (hz : l1.length + l2.length ≤ 4194304) (hbase : base ≤ w.heap.size)
    (h : ∀ l a' c' w', Grown w base v l1 l2 (.slice a' l.length c') l w' → wpList Tryz.prog ops Q rest (a.put o.dst (.slice a' l.length c')) w') : wpList Tryz.prog ops Q (o :: rest) a w := by
  obtain ⟨i, hi, hi1, hi2, hi3⟩ := info_eq info8
  refine Ap.wpList_any w hgd s x 31 ho base 5 i (.int .u8 0) 1 1 Tryz.underlying31 hi hi1 hi2 hi3 rfl (by decide) v l1.length (vbs l1) hs hown xv l2.length (vbs l2) hx (row_at hr) (by unfold maxLen; omega) (by omega) hbase _ rfl ?_
  intro a' c' w' h1 h2 h3
  have e : l1.length + l2.length = (l1 ++ l2).length := List.length_append.symm
  rw [e]
  rw [e] at h1 h3
  exact h (l1 ++ l2) a' c' w' ⟨rfl, by unfold Ob; rw [vbs_app]; exact h1, h2, h3⟩
/-- The same of a text. -/
theorem wpT (w : World) {ops : Array Oper} {rest : List Oper} {o : Oper} {a : Act} {Q : Exit → Act → World → Prop} (hgd : o.guard = none) (s x : Operand)
    (ho : o.op = .call { callee := .builtin .append, args := #[s, x], argTypes := #[31, 9] })
    (base : Nat) (v : Value) (l1 : List UInt8) (hs : a.eval s = v) (hown : Ob w base v l1) (l2 : List UInt8) (hx : a.eval x = .string (str l2))
    (hz : l1.length + l2.length ≤ 4194304) (hbase : base ≤ w.heap.size)
    (h : ∀ l a' c' w', l = l1 ++ l2 → Ob w' base (.slice a' l.length c') l → w.grownBy w' v.ownBlock → wpList Tryz.prog ops Q rest (a.put o.dst (.slice a' l.length c')) w') : wpList Tryz.prog ops Q (o :: rest) a w := by
  obtain ⟨i, hi, hi1, hi2, hi3⟩ := info_eq info8
  obtain ⟨v', w', h1, h2, h3, _⟩ := Lib.run_append_own_string (P := Tryz.prog) w base 31 9 o.type 5 i Tryz.underlying31 Tryz.underlying9 hi hi1 hi2 hi3 v l1.length (vbs l1) hown (str l2) (by rw [str_size]; unfold maxLen; omega) (by rw [str_size]; omega) hbase
  rw [str_size] at h2
  have hc : Lib.strCells (str l2) = vbs l2 := by simp [Lib.strCells, str, vbs, vb]
  rw [hc, ← vbs_app, show l1.length + l2.length = (l1 ++ l2).length from List.length_append.symm] at h2
  obtain ⟨a', c', rfl⟩ : ∃ a' c', v' = .slice a' (l1 ++ l2).length c' := by
    rcases h2.2 with ⟨rfl, hn⟩ | ⟨g, cap, cur, rfl, _⟩
    · exact ⟨none, 0, by rw [hn]⟩
    · exact ⟨_, _, rfl⟩
  refine wpList_plain hgd fun _ hK => ?_
  unfold Oper.wp execOp
  simp only [ho, resolve, invoke, builtin, Sem.run_bind, Sem.run_pure, Result.andThen_ok, List.map_toArray, List.map_cons, List.map_nil, hs, hx, h1]
  exact hK _ _ (h (l1 ++ l2) a' c' w' rfl h2 h3)
theorem by8_nat {n : Nat} (h : n < 256) : ((by8 n).toNat : Int) = (n : Int) := by
  unfold by8
  rw [UInt8.toNat_ofNat', Nat.mod_eq_of_lt h]
theorem at_one (w : World) (b : UInt8) : Ob (w.alloc (.cells #[vb b] 5)) w.heap.size (.slice (some ⟨w.heap.size, 0, none⟩) 1 1) [b] := by
  refine ⟨rfl, .inr ⟨w.heap.size, 1, #[vb b], rfl, Nat.le_refl _, heap_alloc_new w _, Nat.le_refl _, by unfold maxLen; omega, rfl, rfl⟩⟩
theorem at_two (w : World) (b c : UInt8) : Ob (w.alloc (.cells #[vb b, vb c] 5)) w.heap.size (.slice (some ⟨w.heap.size, 0, none⟩) 2 2) [b, c] := by
  refine ⟨rfl, .inr ⟨w.heap.size, 2, #[vb b, vb c], rfl, Nat.le_refl _, heap_alloc_new w _, Nat.le_refl _, by unfold maxLen; omega, rfl, rfl⟩⟩
theorem Ob.below {w w' : World} {B C : Nat} {v : Value} {l : List UInt8} (h : Ob w B v l) (hb : Below C w w') (ho : w.heap.size ≤ C) : Ob w' B v l := by
  obtain ⟨h1, h2⟩ := h
  refine ⟨h1, ?_⟩
  rcases h2 with h2 | ⟨g, cap, cur, a1, a2, a3, a4⟩
  · exact .inl h2
  · refine .inr ⟨g, cap, cur, a1, a2, ?_, a4⟩
    have hlt : g < w.heap.size := by
      rcases Nat.lt_or_ge g w.heap.size with h | h
      · exact h
      · rw [Array.getElem?_eq_none h] at a3; cases a3
    rw [hb.block g (by omega)]
    exact a3
/-- An answer that is a row of bytes of one's own. -/
def BPost (l : List UInt8) (w : World) (e : Ending) (w' : World) : Prop := ∃ a c, e = .returned (.slice a l.length c) ∧ Ob w' w.heap.size (.slice a l.length c) l ∧ Below w.heap.size w w'
set_option maxRecDepth 100000 in
set_option maxHeartbeats 2000000 in
theorem specPack (l : List UInt8) (w : World) (hl : l.length ≤ 40) : Calls Tryz.prog 228 #[.string (str l)] w (BPost (packL l) w) := by
  obtain ⟨w1, c, hcv, hat, hb, hlt⟩ := conv_to l (w.alloc (.cells #[vb (by8 l.length)] 5))
  simp only [World.size_alloc] at hcv hb hat hlt
  have hv : vb (by8 l.length) = .int .u8 ((str l).size : Int) := by
    unfold vb
    rw [by8_nat (by omega), str_size]
  have hz : ((str l).size : Int) ≤ 40 := by rw [str_size]; omega
  have HR := hid ((at_one w (by8 l.length)).below hb (by simp))
  have HA := hid hat
  have HB := hid hb
  obtain ⟨s, hs⟩ : ∃ s, s = str l := ⟨_, rfl⟩
  rw [← hs] at hcv hv hz ⊢
  rw [hv] at hcv
  clear hat hb hs
  obtain ⟨t, ht⟩ : ∃ t, Hid (t = packL l) := ⟨_, hid rfl⟩
  rw [← ht.out]
  unfold BPost
  go_enter Tryz.func228, Tryz.ntmps228
  go_upto_region 2 with (at_builtin; refine wpL _ rfl _ _ rfl w.heap.size _ [by8 l.length] rfl HR.out _ l _ rfl HA.out (by rw [List.length_singleton]; omega) (by omega) ?_; intro p a3 c3 w3 hG; have HG := hid hG; clear hG)
  have HP : Hid (p = headL l) := hid HG.out.eq
  have hpl : p.length = l.length + 1 := by rw [HP.out, head_len]
  have HO := hid HG.out.own
  have B1 : Below w.heap.size w w1 := ((Below.refl w.heap.size w).alloc (Nat.le_refl _) _).trans (HB.out.mono (by omega))
  have HB3 : Hid (Below w.heap.size w w3) := hid (B1.trans (HG.out.low HR.out (by omega)))
  have HAP := hid HO.out.at
  have HL3 : Hid (w.heap.size ≤ w3.heap.size) := hid HB3.out.size
  have HPL := hid hpl
  have hpb : p.length ≤ 41 := by omega
  clear HG B1 HB HR HA hcv hv hlt hpl
  go_wp2
  go_loopw [4, 5] (fun s x wr => ∃ (j m : Nat), x = .int .i64 (j : Int) ∧ s = .int .i64 (m : Int) ∧ j ≤ p.length ∧ Hid (m = sumV (p.take j)) ∧ Hid (wr = w3)) (fun _ x _ => p.length - (intOf x).toNat)
  case atStart => exact ⟨0, 1, rfl, rfl, Nat.zero_le _, hid rfl, hid rfl⟩
  case round =>
    obtain ⟨j, m, rfl, rfl, hj, hm, HW⟩ := hrel
    have hw := HW.out
    subst hw
    have hml : m < 65521 := by rw [hm.out]; exact sum_lt _
    by_cases hlt : j < p.length
    · obtain ⟨g, o, rfl, hg, hc⟩ := HAP.out.at hlt
      have q1 : (j : Int) < (p.length : Int) := by omega
      have hd := p[j].toNat_lt
      have e1 : ((m : Int) * 251 + (p[j].toNat : Int)).tmod 65521 = ((stepV m p[j] : Nat) : Int) := by
        unfold stepV
        rw [Int.tmod_eq_emod_of_nonneg (by omega)]
        omega
      have HST : Hid (stepV m p[j] = sumV (p.take (j + 1))) := hid (by rw [hm.out, sum_take hlt])
      simp only [vb] at hc
      generalize stepV m p[j] = m2 at *
      generalize p[j].toNat = d at *
      go_wp2
      exact ⟨⟨j + 1, m2, by simp, by simp, by omega, HST, hid trivial⟩, by simp [intOf]; omega⟩
    · obtain rfl : j = p.length := by omega
      have q1 : ¬ (p.length : Int) < (p.length : Int) := by omega
      have e1 : (m : Int).tdiv 256 = ((m / 256 : Nat) : Int) := by rw [Int.tdiv_eq_ediv_of_nonneg (by omega)]; omega
      have e2 : (m : Int).tmod 256 = ((m % 256 : Nat) : Int) := by rw [Int.tmod_eq_emod_of_nonneg (by omega)]; omega
      have HT : Hid (t = p ++ [by8 (m / 256), by8 (m % 256)]) := hid (by rw [ht.out, hm.out, List.take_length, HP.out]; rfl)
      have hv1 : Hid (Value.int .u8 ((m / 256 : Nat) : Int) = vb (by8 (m / 256))) := hid (by unfold vb; rw [by8_nat (by omega)])
      have hv2 : Hid (Value.int .u8 ((m % 256 : Nat) : Int) = vb (by8 (m % 256))) := hid (by unfold vb; rw [by8_nat (by omega)])
      have hq : m / 256 < 256 := by omega
      have hr : m % 256 < 256 := by omega
      generalize m / 256 = q at *
      generalize m % 256 = r at *
      have HA2 : Hid (At (wr.alloc (.cells #[.int .u8 (q : Int), .int .u8 (r : Int)] 5)) (wr.heap.size + 1) (.slice (some ⟨wr.heap.size, 0, none⟩) 2 2) [by8 q, by8 r]) := hid (by rw [hv1.out, hv2.out]; have := (at_two wr (by8 q) (by8 r)).at; simpa using this)
      have HO2 : Hid (Ob (wr.alloc (.cells #[.int .u8 (q : Int), .int .u8 (r : Int)] 5)) w.heap.size (.slice a3 p.length c3) p) := hid (HO.out.below ((Below.refl _ wr).alloc (Nat.le_refl _) _) (Nat.le_refl _))
      have HB4 : Hid (Below w.heap.size w (wr.alloc (.cells #[.int .u8 (q : Int), .int .u8 (r : Int)] 5))) := hid (HB3.out.alloc HL3.out _)
      have HL4 := hid HB4.out.size
      go_wp2_with (at_builtin; refine wpL _ rfl _ _ rfl w.heap.size _ p rfl HO2.out _ [by8 q, by8 r] _ rfl HA2.out (by simp; omega) HL4.out ?_; intro p4 a4 c4 w4 hG; have HG := hid hG; clear hG)
      go_ret
      obtain rfl : p4 = t := by rw [HG.out.eq, HT.out]
      exact ⟨a4, c4, rfl, HG.out.own, HB4.out.trans (HG.out.low HO2.out HL4.out)⟩
end Jn
end Go.Proofs.YtccklgopcjilcaaGreatDoor
/- PackLine, of the specification and of the program. No condition. -/
namespace Go.Proofs.YtccklgopcjilcaaGreatDoor
open Go.RowKit
set_option linter.unusedVariables false
namespace Jn
/-- A code, and a row of bytes of one's own. -/
def RPost (c : Int) (l : List UInt8) (w : World) (e : Ending) (w' : World) : Prop := ∃ a k, e = .returned (.agg #[.int .i64 c, .slice a l.length k]) ∧ Ob w' w.heap.size (.slice a l.length k) l ∧ Below w.heap.size w w'
theorem retI {c d : Int} {v u : Value} (h : c = d) (h2 : v = u) : Ending.returned (.agg #[.int .i64 c, v]) = .returned (.agg #[.int .i64 d, u]) := by rw [h, h2]
theorem ob_set {w : World} {B b c : Nat} {v u : Value} {l : List UInt8} (h : Ob w B v l) (hb : b < B) : Ob (w.setCell ⟨b, c, none⟩ u) B v l := own_set h hb
theorem ob_mono {w : World} {B B' : Nat} {v : Value} {l : List UInt8} (h : Ob w B v l) (hb : B' ≤ B) : Ob w B' v l := own_mono h hb
theorem packR_bad {l : List UInt8} (h : faultC l ≠ 0) : packR l = [] := by unfold packR; rw [if_neg h]
theorem packR_ok {l : List UInt8} (h : faultC l = 0) : packR l = packL l := by unfold packR; rw [if_pos h]
set_option maxRecDepth 100000 in
set_option maxHeartbeats 4000000 in
theorem implPackLine (l : List UInt8) (w : World) (hl : l.length ≤ 1048576) : Calls Tryz.prog 229 #[.string (str l)] w (RPost (faultC l) (packR l) w) := by
  have hb0 : Below w.heap.size w (w.alloc (.cells #[.int .i64 0, .slice none 0 0] 297)) := (Below.refl _ w).alloc (Nat.le_refl _) _
  have HF := hid (fun w' => implLine l w' hl)
  obtain ⟨f, hf⟩ : ∃ f, Hid (f = faultC l) := ⟨_, hid rfl⟩
  obtain ⟨t, ht⟩ : ∃ t, Hid (t = packR l) := ⟨_, hid rfl⟩
  rw [← hf.out, ← ht.out]
  rw [← hf.out] at HF
  have HX : Hid (f = 0 → t = packL l ∧ l.length ≤ 40) := hid (fun h => by
    have h1 : faultC l = 0 := by rw [← hf.out]; exact h
    exact ⟨by rw [ht.out, packR_ok h1], (fault_len h1).2⟩)
  have HY : Hid (f ≠ 0 → t = []) := hid (fun h => by rw [ht.out, packR_bad (by rw [← hf.out]; exact h)])
  have HB0 := hid hb0
  clear hb0 hf ht
  obtain ⟨s, hs⟩ : ∃ s, Hid (s = str l) := ⟨_, hid rfl⟩
  rw [← hs.out] at HF ⊢
  unfold RPost
  go_enter Tryz.func229, Tryz.ntmps229
  go_wp2_with fail
  refine (HF.out _).mono ?_
  rintro e w1 ⟨rfl, hb⟩
  simp only [World.size_alloc] at hb
  have r0 := kept_cell hb (b := w.heap.size) (o := 0) (v := .int .i64 0) (by omega) (by go_simp)
  have r1 := kept_cell hb (b := w.heap.size) (o := 1) (v := .slice none 0 0) (by omega) (by go_simp)
  have f0 := kept_free hb (b := w.heap.size) (o := 0) (by omega) (by go_simp)
  have f1 := kept_free hb (b := w.heap.size) (o := 1) (by omega) (by go_simp)
  have hl1 : w.heap.size < w1.heap.size := by have := hb.size; simp at this; omega
  have B1 := hid (HB0.out.trans (hb.mono (by omega)))
  clear hb HF HB0
  by_cases hz : f = 0
  · have b1 : (f != 0) = false := by simp [hz]
    have HZ := hid hz
    obtain ⟨h1, h2⟩ := HX.out hz
    have HT := hid h1
    have hsz : (s.size : Int) ≤ 40 := by rw [hs.out, str_size]; omega
    have hv : Hid (Value.int .u8 (s.size : Int) = vb (by8 l.length)) := hid (by unfold vb; rw [by8_nat (by omega), hs.out, str_size])
    have HO1 : Hid (Ob (w1.alloc (.cells #[.int .u8 (s.size : Int)] 5)) w1.heap.size (.slice (some ⟨w1.heap.size, 0, none⟩) 1 1) [by8 l.length]) := hid (by rw [hv.out]; exact at_one w1 _)
    have HLL := hid h2
    clear hz h1 h2 HX HY
    go_upto_region 5 with (at_builtin; refine wpT _ rfl _ _ rfl w1.heap.size _ [by8 l.length] rfl HO1.out l (by show Value.string s = _; rw [hs.out]) (by rw [List.length_singleton]; have := HLL.out; omega) (by simp) ?_; intro p a3 c3 w3 hp ho hg; have HP := hid hp; have HO := hid ho; have HG := hid hg; clear hp ho hg)
    have hpl : Hid (p = headL l) := HP
    have hpb : p.length ≤ 41 := by rw [hpl.out, head_len]; have := HLL.out; omega
    have hB3 : Below w1.heap.size w1 w3 := ((Below.refl _ w1).alloc (Nat.le_refl _) _).grown HG.out (by simp) (fun b e => (HO1.out.lt b e).1)
    have r2 := kept_cell hB3 hl1 r0
    have r3 := kept_cell hB3 hl1 r1
    have f2 := kept_free hB3 hl1 f0
    have f3 := kept_free hB3 hl1 f1
    have B3 := hid (B1.out.trans (hB3.mono (by omega)))
    have hl3 : w1.heap.size ≤ w3.heap.size := hB3.size
    have HS := hid (implSum _ p _ w3 (by omega) HO.out.at)
    have hm := sum_lt p
    have HTT : Hid (t = p ++ [by8 (sumV p / 256), by8 (sumV p % 256)]) := hid (by rw [HT.out, hpl.out]; rfl)
    have HH := hid (fun w' => implHi (sumV p) w' (by omega))
    have HLO := hid (fun w' => implLo (sumV p) w' (by omega))
    have hv1 : Hid (Value.int .u8 ((sumV p / 256 : Nat) : Int) = vb (by8 (sumV p / 256))) := hid (by unfold vb; rw [by8_nat (by omega)])
    have hv2 : Hid (Value.int .u8 ((sumV p % 256 : Nat) : Int) = vb (by8 (sumV p % 256))) := hid (by unfold vb; rw [by8_nat (by omega)])
    have HA2 : Hid (At (w3.alloc (.cells #[.int .u8 ((sumV p / 256 : Nat) : Int), .int .u8 ((sumV p % 256 : Nat) : Int)] 5)) (w3.heap.size + 1) (.slice (some ⟨w3.heap.size, 0, none⟩) 2 2) [by8 (sumV p / 256), by8 (sumV p % 256)]) := hid (by rw [hv1.out, hv2.out]; have := (at_two w3 (by8 (sumV p / 256)) (by8 (sumV p % 256))).at; simpa using this)
    have HO2 : Hid (Ob (w3.alloc (.cells #[.int .u8 ((sumV p / 256 : Nat) : Int), .int .u8 ((sumV p % 256 : Nat) : Int)] 5)) w1.heap.size (.slice a3 p.length c3) p) := hid (HO.out.below ((Below.refl _ w3).alloc (Nat.le_refl _) _) (Nat.le_refl _))
    generalize sumV p / 256 = q at *
    generalize sumV p % 256 = r at *
    generalize cx (sumV p) = cs at *
    clear hB3 r0 r1 f0 f1 HG HO1
    go_wp2_with fail
    refine HS.out.mono ?_
    rintro e w4 ⟨rfl, hw⟩
    replace hw := hw.symm
    subst hw
    go_wp2_with fail
    refine (HH.out _).mono ?_
    rintro e w4 ⟨rfl, hw⟩
    replace hw := hw.symm
    subst hw
    go_wp2_with fail
    refine (HLO.out _).mono ?_
    rintro e w4 ⟨rfl, hw⟩
    replace hw := hw.symm
    subst hw
    go_wp2_with (at_builtin; refine wpL _ rfl _ _ rfl w1.heap.size _ p rfl HO2.out _ [by8 q, by8 r] _ rfl HA2.out (by simp; omega) (by simp; omega) ?_; intro p4 a4 c4 w4 hG; have hB4 := ((Below.refl w1.heap.size w3).alloc hl3 _).trans (hG.low HO2.out (by simp; omega)); have t0 := kept_cell hB4 hl1 r2; have t1 := kept_cell hB4 hl1 r3; have g0 := kept_free hB4 hl1 f2; have g1 := kept_free hB4 hl1 f3; have HG4 := hid hG; have B4 := hid (B3.out.trans (hB4.mono (by omega))); clear hG hB4)
    obtain rfl : p4 = t := by rw [HG4.out.eq, HTT.out]
    refine bodyPost_ret (v := .agg #[.int .i64 0, .slice a4 p4.length c4]) (by simp [results, Tryz.results229, go_sem, t0, t1]) rfl ⟨a4, c4, retI HZ.out.symm rfl, ?_, setB (setB B4.out (Nat.le_refl _) _) (Nat.le_refl _) _⟩
    exact ob_mono (ob_set (ob_set HG4.out.own hl1) hl1) (by omega)
  · have b1 : (f != 0) = true := by simpa using hz
    have HE := hid (HY.out hz)
    clear hz
    go_wp2
    refine bodyPost_ret (v := .agg #[.int .i64 f, .slice none 0 0]) (by simp [results, Tryz.results229, go_sem, r0, r1]) rfl ⟨none, 0, retI rfl (by rw [HE.out]; rfl), by rw [HE.out]; exact ob_nil _ _, setB (setB B1.out (Nat.le_refl _) _) (Nat.le_refl _) _⟩
end Jn
end Go.Proofs.YtccklgopcjilcaaGreatDoor
/- What the laws do with rows of bytes: copied, compared, marked, held. No condition. -/
namespace Go.Proofs.YtccklgopcjilcaaGreatDoor
open Go.RowKit
set_option linter.unusedVariables false
namespace Jn
theorem owns_cell {w : World} {base g n cap i : Nat} {e : TypeId} {xs : List Value} (h : w.ownsRow base e 1 (.slice (some ⟨g, 0, none⟩) n cap) n xs) (hi : i < n) :
    (∃ u, w.cell? ⟨g, i, none⟩ = some u) ∧ w.frozen? ⟨g, i, none⟩ = false ∧ base ≤ g ∧ g < w.heap.size := by
  obtain ⟨hl, ⟨h0, _⟩ | ⟨g', cap', cur, hv, hbg, hg, hle, hm, hs, ht⟩⟩ := h
  · cases h0
  · cases hv
    have hlt : i < cur.size := by omega
    exact ⟨⟨cur[i], by simp [World.cell?, hg, hlt]⟩, by simp [World.frozen?, hg], hbg, (Array.getElem?_eq_some_iff.1 hg).1⟩
theorem owns_some {w : World} {base n : Nat} {e : TypeId} {v : Value} {xs : List Value} (h : w.ownsRow base e 1 v n xs) (hn : 0 < n) : ∃ g cap, v = .slice (some ⟨g, 0, none⟩) n cap := by
  obtain ⟨hl, ⟨_, h0⟩ | ⟨g', cap', cur, hv, _⟩⟩ := h
  · omega
  · exact ⟨_, _, hv⟩
theorem Ob.slice {w : World} {B : Nat} {v : Value} {l : List UInt8} (h : Ob w B v l) : ∃ a cap, v = .slice a l.length cap := by
  obtain ⟨hl, ⟨rfl, h0⟩ | ⟨g', cap', cur, hv, _⟩⟩ := h
  · exact ⟨none, 0, by rw [h0]⟩
  · exact ⟨_, _, hv⟩
theorem grown_refl (w : World) (row : Option Nat) : w.grownBy w row := ⟨rfl, rfl, rfl, Nat.le_refl _, fun _ _ _ => rfl⟩
theorem grown_after {w w1 w2 : World} {row : Option Nat} (h : w.grownBy w1 row) (h2 : w1.grownBy w2 row) : w.grownBy w2 row :=
  ⟨h2.os.trans h.os, h2.tape.trans h.tape, h2.output.trans h.output, Nat.le_trans h.size h2.size, fun k hk hr => (h2.block k (Nat.lt_of_lt_of_le hk h.size) hr).trans (h.block k hk hr)⟩
theorem grown_set {w w1 : World} {g : Nat} (h : w.grownBy w1 (some g)) (i : Nat) (u : Value) : w.grownBy (w1.setCell ⟨g, i, none⟩ u) (some g) :=
  grown_after h ⟨rfl, rfl, rfl, by simp [World.setCell], fun k hk hr => Below.heap_setCell _ _ _ _ (fun e => hr (by rw [e]))⟩
theorem below_drewN {B : Nat} {a w : World} (h : Below B a w) (n : Nat) : Below B a (w.drewN n) := ⟨h.os, h.tape, h.output, h.size, h.block⟩
def marksF (k : Nat) (n : Nat) : List UInt8 := (List.range n).map fun i => by8 (k + i)
theorem marksF_len (k n : Nat) : (marksF k n).length = n := by simp [marksF]
theorem marksF_succ (k n : Nat) : marksF k (n + 1) = marksF k n ++ [by8 (k + n)] := by simp [marksF, List.range_succ]
theorem marksF_get {k n i : Nat} (h : i < n) : (marksF k n)[i]'(by rw [marksF_len]; exact h) = by8 (k + i) := by simp [marksF]
def half (k : Nat) (xs : List UInt8) (i : Nat) : List UInt8 := marksF k i ++ xs.drop i
theorem half_set {k : Nat} {xs : List UInt8} {i : Nat} (h : i < xs.length) : (half k xs i).set i (by8 (k + i)) = half k xs (i + 1) := by
  unfold half
  rw [marksF_succ, List.drop_eq_getElem_cons h, List.set_append_right _ _ (Nat.le_of_eq (marksF_len k i)), marksF_len, Nat.sub_self, List.set_cons_zero, List.append_assoc]
  rfl
theorem half_len {k : Nat} {xs : List UInt8} {i : Nat} (h : i ≤ xs.length) : (half k xs i).length = xs.length := by
  unfold half
  rw [List.length_append, marksF_len, List.length_drop]
  omega
theorem wrap8 (n : Nat) : IntKind.u8.wrap (n : Int) = ((by8 n).toNat : Int) := by
  rw [IntKind.wrap_u8]
  unfold by8
  rw [UInt8.toNat_ofNat']
  omega
set_option maxRecDepth 100000 in
set_option maxHeartbeats 2000000 in
theorem eqS (B : Nat) (v1 v2 : Value) (xs : List UInt8) (w : World) (hn : xs.length ≤ 1048576) (h1 : At w B v1 xs) (h2 : At w B v2 xs) (hB : B ≤ w.heap.size) :
    Calls Tryz.prog 110 #[v1, v2] w fun e w' => e = .returned (.bool true) ∧ Below w.heap.size w w' := by
  obtain ⟨a1, c1, rfl, _⟩ := h1.slice
  obtain ⟨a2, c2, rfl, _⟩ := h2.slice
  have H1 := hid h1
  have H2 := hid h2
  clear h1 h2
  have hb : ((xs.length : Int) != (xs.length : Int)) = false := by simp
  go_enter Tryz.func110, Tryz.ntmps110
  go_wp2
  go_loopw [5] (fun i wr => ∃ k : Nat, i = .int .i64 k ∧ k ≤ xs.length ∧ Below w.heap.size w wr) (fun i _ => xs.length - (intOf i).toNat)
  case atStart => exact ⟨0, rfl, Nat.zero_le _, Below.refl _ _⟩
  case round =>
    obtain ⟨k, rfl, hk, hbel⟩ := hrel
    by_cases hlt : k < xs.length
    · obtain ⟨g1, o1, rfl, hg1, hc1⟩ := (H1.out.below hbel hB).at hlt
      obtain ⟨g2, o2, rfl, hg2, hc2⟩ := (H2.out.below hbel hB).at hlt
      simp only [vb] at hc1 hc2
      generalize (xs[k].toNat : Int) = x at *
      have hne : (x != x) = false := by simp
      have hne2 : (x == x) = true := by simp
      have q1 : (k : Int) < (xs.length : Int) := by omega
      go_wp2
      go_quiet (fail)
      go_wp2
      exact ⟨⟨k + 1, by simp, by omega, below_drewN hbel nq⟩, by simp [intOf]; omega⟩
    · go_wp2
      go_ret
      exact ⟨rfl, hbel⟩
set_option maxRecDepth 100000 in
set_option maxHeartbeats 2000000 in
theorem markS (B : Nat) (v : Value) (xs : List UInt8) (k0 : Nat) (w : World) (hn : xs.length ≤ 1048576) (hk0 : k0 ≤ 17592186044416) (h : Ob w B v xs) :
    Calls Tryz.prog 115 #[v, .int .i64 (k0 : Int)] w fun e w' => e = .returned (.int .i64 ((k0 : Int) + (xs.length : Int))) ∧ Ob w' B v (marksF k0 xs.length) ∧ w.grownBy w' v.ownBlock := by
  obtain ⟨a, cap, rfl⟩ := h.slice
  have HO := hid h
  clear h
  go_enter Tryz.func115, Tryz.ntmps115
  go_wp2
  go_loopw [1, 5] (fun q i wr => ∃ k : Nat, i = .int .i64 k ∧ q = .int .i64 ((k0 : Int) + (k : Int)) ∧ k ≤ xs.length ∧ Hid (wr.ownsRow B 5 1 (.slice a xs.length cap) xs.length (vbs (half k0 xs k))) ∧ w.grownBy wr (Value.slice a xs.length cap).ownBlock) (fun _ i _ => xs.length - (intOf i).toNat)
  case atStart => exact ⟨0, rfl, by simp, Nat.zero_le _, hid (by have := HO.out; unfold Ob at this; simpa [half, marksF] using this), grown_refl _ _⟩
  case round =>
    obtain ⟨k, rfl, rfl, hk, HR, hbel⟩ := hrel
    by_cases hlt : k < xs.length
    · obtain ⟨g, c2, e2⟩ := owns_some HR.out (by omega)
      cases e2
      have q1 : (k : Int) < (xs.length : Int) := by omega
      obtain ⟨⟨u, hcu⟩, hfu, hbg, hgl⟩ := owns_cell HR.out hlt
      have hw8 := wrap8 (k0 + k)
      rw [Int.natCast_add] at hw8
      have HS : Hid ((wr.setCell ⟨g, k, none⟩ (vb (by8 (k0 + k)))).ownsRow B 5 1 (.slice (some ⟨g, 0, none⟩) xs.length cap) xs.length (vbs (half k0 xs (k + 1)))) := hid (by
        have h := (HR.out.stored k (vb (by8 (k0 + k)))).1
        have e : (vbs (half k0 xs k)).set k (vb (by8 (k0 + k))) = vbs (half k0 xs (k + 1)) := by
          unfold vbs
          rw [← half_set hlt]
          simp
        rw [e] at h
        exact h)
      have hb2 : w.grownBy (wr.setCell ⟨g, k, none⟩ (vb (by8 (k0 + k)))) (some g) := grown_set hbel k _
      unfold vb at HS hb2
      generalize ((by8 (k0 + k)).toNat : Int) = d at *
      go_wp2
      exact ⟨⟨k + 1, by simp, by simp; omega, by omega, HS, hb2⟩, by simp [intOf]; omega⟩
    · obtain rfl : k = xs.length := by omega
      have HS : Hid (Ob wr B (.slice a xs.length cap) (marksF k0 xs.length)) := hid (by unfold Ob; rw [marksF_len]; simpa [half] using HR.out)
      go_wp2
      go_ret
      exact ⟨rfl, HS.out, hbel⟩
set_option maxRecDepth 100000 in
set_option maxHeartbeats 2000000 in
theorem heldS (B : Nat) (v : Value) (n : Nat) (k0 : Nat) (w : World) (hn : n ≤ 1048576) (hk0 : k0 ≤ 17592186044416) (h : At w B v (marksF k0 n)) :
    Calls Tryz.prog 148 #[v, .int .i64 (k0 : Int)] w fun e w' => e = .returned (.int .i64 ((k0 : Int) + (n : Int))) ∧ w' = w := by
  obtain ⟨a, cap, rfl, _⟩ := h.slice
  have H1 := hid h
  clear h
  rw [marksF_len] at H1 ⊢
  go_enter Tryz.func148, Tryz.ntmps148
  go_wp2
  go_loop [1, 5] (fun q i => ∃ k : Nat, i = .int .i64 k ∧ q = .int .i64 ((k0 : Int) + (k : Int)) ∧ k ≤ n) (fun _ i => n - (intOf i).toNat)
  case atStart => exact ⟨0, rfl, by simp, Nat.zero_le _⟩
  case round =>
    obtain ⟨k, rfl, rfl, hk⟩ := hrel
    by_cases hlt : k < n
    · obtain ⟨g, o, rfl, hg, hc⟩ := H1.out.at (i := k) (by rw [marksF_len]; exact hlt)
      rw [marksF_get hlt] at hc
      have hw8 := wrap8 (k0 + k)
      rw [Int.natCast_add] at hw8
      simp only [vb] at hc
      generalize ((by8 (k0 + k)).toNat : Int) = d at *
      have hne : (d != d) = false := by simp
      have q1 : (k : Int) < (n : Int) := by omega
      go_wp2
      exact ⟨⟨k + 1, by simp, by simp; omega, by omega⟩, by simp [intOf]; omega⟩
    · obtain rfl : k = n := by omega
      go_wp2
      go_ret
      exact ⟨rfl, rfl⟩
end Jn
end Go.Proofs.YtccklgopcjilcaaGreatDoor
/- A code and a row of bytes: compared, marked, held; what a law keeps between its calls. No condition. -/
namespace Go.Proofs.YtccklgopcjilcaaGreatDoor
open Go.RowKit
set_option linter.unusedVariables false
namespace Jn
theorem blk_cell {w : World} {b o : Nat} {cs : Array Value} {t : TypeId} {v : Value} (h : w.heap[b]? = some (.cells cs t (0, 0))) (hv : cs[o]? = some v) : w.cell? ⟨b, o, none⟩ = some v := by
  simp only [World.cell?, h]
  exact hv
theorem blk_lt {w : World} {b : Nat} {x : Obj} (h : w.heap[b]? = some x) : b < w.heap.size := by
  rcases Nat.lt_or_ge b w.heap.size with h1 | h1
  · exact h1
  · rw [Array.getElem?_eq_none h1] at h; cases h
/-- What a law keeps between its calls: the two answers' variables, and what holds of their rows. -/
structure Inv (w wc : World) (T : TypeId) (n0 n1 : Nat) (C0 C1 : Array Value) (P : World → Prop) : Prop where
  st : Below w.heap.size w wc
  b0 : wc.heap[n0]? = some (.cells C0 T (0, 0))
  b1 : wc.heap[n1]? = some (.cells C1 T (0, 0))
  p : P wc
  kp : ∀ x y, P x → Below x.heap.size x y → P y
theorem Inv.below {w wc w' : World} {T : TypeId} {n0 n1 : Nat} {C0 C1 : Array Value} {P : World → Prop} (h : Inv w wc T n0 n1 C0 C1 P) (hb : Below wc.heap.size wc w') : Inv w w' T n0 n1 C0 C1 P :=
  ⟨h.st.trans (hb.mono h.st.size), by rw [hb.block n0 (blk_lt h.b0)]; exact h.b0, by rw [hb.block n1 (blk_lt h.b1)]; exact h.b1, h.kp _ _ h.p hb, h.kp⟩
theorem Inv.size {w wc : World} {T : TypeId} {n0 n1 : Nat} {C0 C1 : Array Value} {P : World → Prop} (h : Inv w wc T n0 n1 C0 C1 P) : w.heap.size ≤ wc.heap.size := h.st.size
theorem Ob.kept {w w' : World} {B : Nat} {v : Value} {l : List UInt8} {row : Option Nat} (h : Ob w B v l) (hg : w.grownBy w' row) (hne : ∀ b, v.ownBlock = some b → row ≠ some b) : Ob w' B v l := by
  refine ⟨h.1, ?_⟩
  rcases h.2 with hn | ⟨g, cap, cur, rfl, hbg, hgg, rest⟩
  · exact .inl hn
  · exact .inr ⟨g, cap, cur, rfl, hbg, by rw [hg.block g (Array.getElem?_eq_some_iff.1 hgg).1 (fun e => hne g rfl e.symm)]; exact hgg, rest⟩
theorem At.kept {w w' : World} {B : Nat} {v : Value} {l : List UInt8} {row : Option Nat} (h : At w B v l) (hg : w.grownBy w' row) (hB : B ≤ w.heap.size) (hne : ∀ b, row = some b → B ≤ b) : At w' B v l :=
  h.keep fun g hgB => hg.block g (by omega) (fun e => by have := hne g e.symm; omega)
/-- The rows of two answers: one is only read, the other one is marked. -/
def P2 (n B : Nat) (v0 : Value) (l0 : List UInt8) (v1 : Value) (l1 : List UInt8) (x : World) : Prop := At x n v0 l0 ∧ n ≤ x.heap.size ∧ Ob x B v1 l1
theorem P2.kp {n B : Nat} {v0 v1 : Value} {l0 l1 : List UInt8} : ∀ x y, P2 n B v0 l0 v1 l1 x → Below x.heap.size x y → P2 n B v0 l0 v1 l1 y :=
  fun x y ⟨h1, h2, h3⟩ hb => ⟨h1.below hb h2, Nat.le_trans h2 hb.size, h3.below hb (Nat.le_refl _)⟩
theorem Inv.mark {w wc w4 : World} {T : TypeId} {n0 n1 n B : Nat} {C0 C1 : Array Value} {v0 v1 : Value} {l0 l1 l2 : List UInt8} (h : Inv w wc T n0 n1 C0 C1 (P2 n B v0 l0 v1 l1)) (hg : wc.grownBy w4 v1.ownBlock) (ho : Ob w4 B v1 l2)
    (hb : ∀ b, v1.ownBlock = some b → B ≤ b ∧ b < n1) (h0 : n0 < B) (hn : n ≤ B) (hw : w.heap.size ≤ B) : Inv w w4 T n0 n1 C0 C1 (P2 n B v0 l0 v1 l2) := by
  have hne : ∀ k, (k < B ∨ n1 ≤ k) → some k ≠ v1.ownBlock := fun k hk e => by have := hb k e.symm; omega
  exact ⟨h.st.trans ⟨hg.os, hg.tape, hg.output, hg.size, fun k hk => hg.block k (Nat.lt_of_lt_of_le hk h.st.size) (hne k (.inl (by omega)))⟩,
    by rw [hg.block n0 (blk_lt h.b0) (hne n0 (.inl h0))]; exact h.b0, by rw [hg.block n1 (blk_lt h.b1) (hne n1 (.inr (Nat.le_refl _)))]; exact h.b1,
    ⟨h.p.1.kept hg h.p.2.1 (fun b e => by have := hb b e; omega), Nat.le_trans h.p.2.1 hg.size, ho⟩, P2.kp⟩
end Jn
end Go.Proofs.YtccklgopcjilcaaGreatDoor
