/- A line packed, by the specification and by the program; rows of bytes that grow. No condition. -/
import Derived.Test.YtiliahibnhfhoaaJnC
import Derived.Test.YtiliahibnhfhoaaApA
import Derived.Lib.AppendStr
import Derived.IntWalk
import Derived.Deep.CutRange
import Derived.Deep.Cut
namespace Go.Proofs.Ytiliahibnhfhoaa
open Go.RowKit
set_option linter.unusedVariables false
namespace Jn
theorem info8 : (Try.prog.info? 5).map (fun i => (i.zero, i.size, i.bytes)) = some (some (.int .u8 0), 1, 1) := by kernel_rfl
theorem info_eq {t : TypeId} {z : Option Value} {s b : Nat} (h : (Try.prog.info? t).map (fun i => (i.zero, i.size, i.bytes)) = some (z, s, b)) : ∃ i, Try.prog.info? t = some i ∧ i.zero = z ∧ i.size = s ∧ i.bytes = b := by
  cases hi : Try.prog.info? t with
  | none => rw [hi] at h; cases h
  | some i =>
    rw [hi] at h
    simp only [Option.map_some, Option.some.injEq, Prod.mk.injEq] at h
    exact ⟨i, rfl, h.1, h.2.1, h.2.2⟩
/-- A row of bytes of one's own. -/
def Ob (w : World) (B : Nat) (v : Value) (l : List UInt8) : Prop := w.ownsRow B 5 1 v l.length (vbs l)
theorem Ob.at {w : World} {B : Nat} {v : Value} {l : List UInt8} (h : Ob w B v l) : At w w.heap.size v l := at_own h
theorem ob_nil (w : World) (B : Nat) : Ob w B (.slice none 0 0) [] := World.ownsRow_nil _ _ _ _
theorem row_at {w : World} {B : Nat} {v : Value} {l : List UInt8} (h : At w B v l) : Ap.Row w 1 v l.length (vbs l) := by
  obtain ⟨a, c, rfl, hc, hcell⟩ := h
  refine ⟨a, c, rfl, by rw [vbs_len]; omega, vbs_one l, ?_⟩
  cases l with
  | nil => exact .inl rfl
  | cons x xs =>
    right
    obtain ⟨g, o, rfl, _, _⟩ := hcell 0 (by simp)
    refine ⟨_, rfl, fun j u hu => ?_⟩
    have hj : j < (x :: xs).length := by
      have := (List.getElem?_eq_some_iff.1 hu).1
      rw [vbs_len] at this
      exact this
    obtain ⟨g', o', hg, _, hcl⟩ := hcell j hj
    cases hg
    rw [vbs_get hj] at hu
    cases hu
    rw [addn]
    exact hcl
/-- What a row of bytes is behind an append. -/
structure Grown (w : World) (base : Nat) (v : Value) (l1 l2 : List UInt8) (v' : Value) (l : List UInt8) (w' : World) : Prop where
  eq : l = l1 ++ l2
  own : Ob w' base v' l
  grown : w.grownBy w' v.ownBlock
  blk : v'.ownBlock = v.ownBlock ∨ v'.ownBlock = some w.heap.size
theorem Grown.below {w w' : World} {base B : Nat} {v v' : Value} {l1 l2 l : List UInt8} (h : Grown w base v l1 l2 v' l w') (ho : ∀ b, v.ownBlock = some b → B ≤ b) (hB : B ≤ w.heap.size) : Below B w w' :=
  (Below.refl B w).grown h.grown hB ho
theorem Ob.lt {w : World} {B : Nat} {v : Value} {l : List UInt8} (h : Ob w B v l) : ∀ b, v.ownBlock = some b → B ≤ b ∧ b < w.heap.size := World.ownsRow.lt h
theorem Grown.low {w w' : World} {base : Nat} {v v' : Value} {l1 l2 l : List UInt8} (h : Grown w base v l1 l2 v' l w') (ho : Ob w base v l1) (hB : base ≤ w.heap.size) : Below base w w' :=
  h.below (fun b e => (ho.lt b e).1) hB
theorem wpL (w : World) {ops : Array Oper} {rest : List Oper} {o : Oper} {a : Act} {Q : Exit → Act → World → Prop} (hgd : o.guard = none) (s x : Operand)
    (ho : o.op = .call { callee := .builtin .append, args := #[s, x], argTypes := #[24, 24] })
    (base : Nat) (v : Value) (l1 : List UInt8) (hs : a.eval s = v) (hown : Ob w base v l1) (xv : Value) (l2 : List UInt8) (B : Nat) (hx : a.eval x = xv) (hr : At w B xv l2)
    (hz : l1.length + l2.length ≤ 4194304) (hbase : base ≤ w.heap.size)
    (h : ∀ l a' c' w', Grown w base v l1 l2 (.slice a' l.length c') l w' → wpList Try.prog ops Q rest (a.put o.dst (.slice a' l.length c')) w') : wpList Try.prog ops Q (o :: rest) a w := by
  obtain ⟨i, hi, hi1, hi2, hi3⟩ := info_eq info8
  refine Ap.wpList_any w hgd s x 24 ho base 5 i (.int .u8 0) 1 1 Try.underlying24 hi hi1 hi2 hi3 rfl (by decide) v l1.length (vbs l1) hs hown xv l2.length (vbs l2) hx (row_at hr) (by unfold maxLen; omega) (by omega) hbase _ rfl ?_
  intro a' c' w' h1 h2 h3
  have e : l1.length + l2.length = (l1 ++ l2).length := List.length_append.symm
  rw [e]
  rw [e] at h1 h3
  exact h (l1 ++ l2) a' c' w' ⟨rfl, by unfold Ob; rw [vbs_app]; exact h1, h2, h3⟩
/-- The same of a text. -/
theorem wpT (w : World) {ops : Array Oper} {rest : List Oper} {o : Oper} {a : Act} {Q : Exit → Act → World → Prop} (hgd : o.guard = none) (s x : Operand)
    (ho : o.op = .call { callee := .builtin .append, args := #[s, x], argTypes := #[24, 9] })
    (base : Nat) (v : Value) (l1 : List UInt8) (hs : a.eval s = v) (hown : Ob w base v l1) (l2 : List UInt8) (hx : a.eval x = .string (str l2))
    (hz : l1.length + l2.length ≤ 4194304) (hbase : base ≤ w.heap.size)
    (h : ∀ l a' c' w', l = l1 ++ l2 → Ob w' base (.slice a' l.length c') l → w.grownBy w' v.ownBlock → wpList Try.prog ops Q rest (a.put o.dst (.slice a' l.length c')) w') : wpList Try.prog ops Q (o :: rest) a w := by
  obtain ⟨i, hi, hi1, hi2, hi3⟩ := info_eq info8
  obtain ⟨v', w', h1, h2, h3, _⟩ := Lib.run_append_own_string (P := Try.prog) w base 24 9 o.type 5 i Try.underlying24 Try.underlying9 hi hi1 hi2 hi3 v l1.length (vbs l1) hown (str l2) (by rw [str_size]; unfold maxLen; omega) (by rw [str_size]; omega) hbase
  rw [str_size] at h2
  have hc : Lib.strCells (str l2) = vbs l2 := by simp [Lib.strCells, str, vbs, vb]
  rw [hc, ← vbs_app, show l1.length + l2.length = (l1 ++ l2).length from List.length_append.symm] at h2
  obtain ⟨a', c', rfl⟩ : ∃ a' c', v' = .slice a' (l1 ++ l2).length c' := by
    rcases h2.2 with ⟨rfl, hn⟩ | ⟨g, cap, cur, rfl, _⟩
    · exact ⟨none, 0, by rw [hn]⟩
    · exact ⟨_, _, rfl⟩
  refine wpList_plain hgd fun _ hK => ?_
  unfold Oper.wp execOp
  simp only [ho, resolve, invoke, builtin, Sem.run_bind, Sem.run_pure, Result.andThen_ok, List.map_toArray, List.map_cons, List.map_nil, hs, hx, h1]
  exact hK _ _ (h (l1 ++ l2) a' c' w' rfl h2 h3)
theorem by8_nat {n : Nat} (h : n < 256) : ((by8 n).toNat : Int) = (n : Int) := by
  unfold by8
  rw [UInt8.toNat_ofNat', Nat.mod_eq_of_lt h]
theorem at_one (w : World) (b : UInt8) : Ob (w.alloc (.cells #[vb b] 5)) w.heap.size (.slice (some ⟨w.heap.size, 0, none⟩) 1 1) [b] := by
  refine ⟨rfl, .inr ⟨w.heap.size, 1, #[vb b], rfl, Nat.le_refl _, heap_alloc_new w _, Nat.le_refl _, by unfold maxLen; omega, rfl, rfl⟩⟩
theorem at_two (w : World) (b c : UInt8) : Ob (w.alloc (.cells #[vb b, vb c] 5)) w.heap.size (.slice (some ⟨w.heap.size, 0, none⟩) 2 2) [b, c] := by
  refine ⟨rfl, .inr ⟨w.heap.size, 2, #[vb b, vb c], rfl, Nat.le_refl _, heap_alloc_new w _, Nat.le_refl _, by unfold maxLen; omega, rfl, rfl⟩⟩
theorem Ob.below {w w' : World} {B C : Nat} {v : Value} {l : List UInt8} (h : Ob w B v l) (hb : Below C w w') (ho : w.heap.size ≤ C) : Ob w' B v l := by
  obtain ⟨h1, h2⟩ := h
  refine ⟨h1, ?_⟩
  rcases h2 with h2 | ⟨g, cap, cur, a1, a2, a3, a4⟩
  · exact .inl h2
  · refine .inr ⟨g, cap, cur, a1, a2, ?_, a4⟩
    have hlt : g < w.heap.size := by
      rcases Nat.lt_or_ge g w.heap.size with h | h
      · exact h
      · rw [Array.getElem?_eq_none h] at a3; cases a3
    rw [hb.block g (by omega)]
    exact a3
/-- An answer that is a row of bytes of one's own. -/
def BPost (l : List UInt8) (w : World) (e : Ending) (w' : World) : Prop := ∃ a c, e = .returned (.slice a l.length c) ∧ Ob w' w.heap.size (.slice a l.length c) l ∧ Below w.heap.size w w'
set_option maxRecDepth 100000 in
set_option maxHeartbeats 2000000 in
theorem specPack (l : List UInt8) (w : World) (hl : l.length ≤ 40) : Calls Try.prog 50 #[.string (str l)] w (BPost (packL l) w) := by
  obtain ⟨w1, c, hcv, hat, hb, hlt⟩ := conv_to l (w.alloc (.cells #[vb (by8 l.length)] 5))
  simp only [World.size_alloc] at hcv hb hat hlt
  have hv : vb (by8 l.length) = .int .u8 ((str l).size : Int) := by
    unfold vb
    rw [by8_nat (by omega), str_size]
  have hz : ((str l).size : Int) ≤ 40 := by rw [str_size]; omega
  have HR := hid ((at_one w (by8 l.length)).below hb (by simp))
  have HA := hid hat
  have HB := hid hb
  obtain ⟨s, hs⟩ : ∃ s, s = str l := ⟨_, rfl⟩
  rw [← hs] at hcv hv hz ⊢
  rw [hv] at hcv
  clear hat hb hs
  obtain ⟨t, ht⟩ : ∃ t, Hid (t = packL l) := ⟨_, hid rfl⟩
  rw [← ht.out]
  unfold BPost
  go_enter Try.func50, Try.ntmps50
  go_upto_region 2 with (at_builtin; refine wpL _ rfl _ _ rfl w.heap.size _ [by8 l.length] rfl HR.out _ l _ rfl HA.out (by rw [List.length_singleton]; omega) (by omega) ?_; intro p a3 c3 w3 hG; have HG := hid hG; clear hG)
  have HP : Hid (p = headL l) := hid HG.out.eq
  have hpl : p.length = l.length + 1 := by rw [HP.out, head_len]
  have HO := hid HG.out.own
  have B1 : Below w.heap.size w w1 := ((Below.refl w.heap.size w).alloc (Nat.le_refl _) _).trans (HB.out.mono (by omega))
  have HB3 : Hid (Below w.heap.size w w3) := hid (B1.trans (HG.out.low HR.out (by omega)))
  have HAP := hid HO.out.at
  have HL3 : Hid (w.heap.size ≤ w3.heap.size) := hid HB3.out.size
  have HPL := hid hpl
  have hpb : p.length ≤ 41 := by omega
  clear HG B1 HB HR HA hcv hv hlt hpl
  go_wp2
  go_loopw [4, 5] (fun s x wr => ∃ (j m : Nat), x = .int .i64 (j : Int) ∧ s = .int .i64 (m : Int) ∧ j ≤ p.length ∧ Hid (m = sumV (p.take j)) ∧ Hid (wr = w3)) (fun _ x _ => p.length - (intOf x).toNat)
  case atStart => exact ⟨0, 1, rfl, rfl, Nat.zero_le _, hid rfl, hid rfl⟩
  case round =>
    obtain ⟨j, m, rfl, rfl, hj, hm, HW⟩ := hrel
    have hw := HW.out
    subst hw
    have hml : m < 65521 := by rw [hm.out]; exact sum_lt _
    by_cases hlt : j < p.length
    · obtain ⟨g, o, rfl, hg, hc⟩ := HAP.out.at hlt
      have q1 : (j : Int) < (p.length : Int) := by omega
      have hd := p[j].toNat_lt
      have e1 : ((m : Int) * 251 + (p[j].toNat : Int)).tmod 65521 = ((stepV m p[j] : Nat) : Int) := by
        unfold stepV
        rw [Int.tmod_eq_emod_of_nonneg (by omega)]
        omega
      have HST : Hid (stepV m p[j] = sumV (p.take (j + 1))) := hid (by rw [hm.out, sum_take hlt])
      simp only [vb] at hc
      generalize stepV m p[j] = m2 at *
      generalize p[j].toNat = d at *
      go_wp2
      exact ⟨⟨j + 1, m2, by simp, by simp, by omega, HST, hid trivial⟩, by simp [intOf]; omega⟩
    · obtain rfl : j = p.length := by omega
      have q1 : ¬ (p.length : Int) < (p.length : Int) := by omega
      have e1 : (m : Int).tdiv 256 = ((m / 256 : Nat) : Int) := by rw [Int.tdiv_eq_ediv_of_nonneg (by omega)]; omega
      have e2 : (m : Int).tmod 256 = ((m % 256 : Nat) : Int) := by rw [Int.tmod_eq_emod_of_nonneg (by omega)]; omega
      have HT : Hid (t = p ++ [by8 (m / 256), by8 (m % 256)]) := hid (by rw [ht.out, hm.out, List.take_length, HP.out]; rfl)
      have hv1 : Hid (Value.int .u8 ((m / 256 : Nat) : Int) = vb (by8 (m / 256))) := hid (by unfold vb; rw [by8_nat (by omega)])
      have hv2 : Hid (Value.int .u8 ((m % 256 : Nat) : Int) = vb (by8 (m % 256))) := hid (by unfold vb; rw [by8_nat (by omega)])
      have hq : m / 256 < 256 := by omega
      have hr : m % 256 < 256 := by omega
      generalize m / 256 = q at *
      generalize m % 256 = r at *
      have HA2 : Hid (At (wr.alloc (.cells #[.int .u8 (q : Int), .int .u8 (r : Int)] 5)) (wr.heap.size + 1) (.slice (some ⟨wr.heap.size, 0, none⟩) 2 2) [by8 q, by8 r]) := hid (by rw [hv1.out, hv2.out]; have := (at_two wr (by8 q) (by8 r)).at; simpa using this)
      have HO2 : Hid (Ob (wr.alloc (.cells #[.int .u8 (q : Int), .int .u8 (r : Int)] 5)) w.heap.size (.slice a3 p.length c3) p) := hid (HO.out.below ((Below.refl _ wr).alloc (Nat.le_refl _) _) (Nat.le_refl _))
      have HB4 : Hid (Below w.heap.size w (wr.alloc (.cells #[.int .u8 (q : Int), .int .u8 (r : Int)] 5))) := hid (HB3.out.alloc HL3.out _)
      have HL4 := hid HB4.out.size
      go_wp2_with (at_builtin; refine wpL _ rfl _ _ rfl w.heap.size _ p rfl HO2.out _ [by8 q, by8 r] _ rfl HA2.out (by simp; omega) HL4.out ?_; intro p4 a4 c4 w4 hG; have HG := hid hG; clear hG)
      go_ret
      obtain rfl : p4 = t := by rw [HG.out.eq, HT.out]
      exact ⟨a4, c4, rfl, HG.out.own, HB4.out.trans (HG.out.low HO2.out HL4.out)⟩
end Jn
end Go.Proofs.Ytiliahibnhfhoaa
