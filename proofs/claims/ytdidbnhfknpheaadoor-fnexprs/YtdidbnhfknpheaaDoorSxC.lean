/- The specification's reading: plain facts for l3Part. -/
import Derived.Test.YtdidbnhfknpheaaDoorSxB
namespace Go.Proofs.YtdidbnhfknpheaaDoor
open Go.RowKit
set_option linter.unusedVariables false
namespace Ex
open Nd (NodeD)
theorem drop_cons {text : List UInt8} {p : Nat} (h : p < text.length) : text.drop p = text.getD p 0 :: text.drop (p + 1) := by
  rw [List.drop_eq_getElem_cons h, getD_eq2 h]
theorem take_isD {text : List UInt8} {fr m : Nat} (h1 : fr + m ≤ text.length) (h : ∀ j, fr ≤ j → j < fr + m → isD (text.getD j 0) = true) : ∀ b ∈ (text.drop fr).take m, isD b = true := by
  intro b hb
  obtain ⟨i, hi, rfl⟩ := List.getElem_of_mem hb
  rw [List.length_take, List.length_drop] at hi
  have := h (fr + i) (by omega) (by omega)
  rw [getD_eq2 (by omega)] at this
  rw [List.getElem_take, List.getElem_drop]
  exact this
theorem num_read {most fr k : Nat} {text : List UInt8} (h : numAt2 most text fr k) (h1 : 1 ≤ most) :
    (numOk text fr k = true ∧ 0 < k ∧ (num most (text.drop fr) = some (pieceV text fr (fr + k), text.drop (fr + k)) ∨ (num most (text.drop fr) = none ∧ fr + k < text.length ∧ isD (text.getD (fr + k) 0) = true))) ∨ (numOk text fr k = false ∧ num most (text.drop fr) = none) := by
  obtain ⟨g1, g2, g3, g4⟩ := h
  have hsp : text.drop fr = (text.drop fr).take k ++ text.drop (fr + k) := by
    rw [← List.drop_drop]
    exact (List.take_append_drop k _).symm
  have hall := take_isD g2 g3
  have hlen : ((text.drop fr).take k).length = k := by rw [List.length_take, List.length_drop]; omega
  have hhead : 0 < k → ((text.drop fr).take k).head? = some (text.getD fr 0) := fun hk => by
    rw [drop_cons (show fr < text.length by omega), show k = (k - 1) + 1 by omega, List.take_succ_cons]
    rfl
  by_cases hs : fr + k < text.length ∧ isD (text.getD (fr + k) 0) = true
  · have hk : k = most := by
      rcases g4 with g | g | g
      · omega
      · rw [hs.2] at g; cases g
      · exact g
    have hall2 := take_isD (text := text) (fr := fr) (m := k + 1) (by omega) (fun j a b => by
      by_cases e : j = fr + k
      · rw [e]; exact hs.2
      · exact g3 j a (by omega))
    have hbig : most < ((text.drop fr).takeWhile isD).length := by
      rw [← List.take_append_drop (k + 1) (text.drop fr), List.takeWhile_append_of_pos hall2, List.length_append, List.length_take, List.length_drop]
      omega
    have hn : num most (text.drop fr) = none := by unfold num; rw [if_pos (num_bad2 hbig)]
    cases ho : numOk text fr k
    · exact .inr ⟨rfl, hn⟩
    · exact .inl ⟨rfl, by omega, .inr ⟨hn, hs.1, hs.2⟩⟩
  · have hst : stops (text.drop (fr + k)) := by
      intro b s e
      by_cases hl : fr + k < text.length
      · rw [drop_cons hl] at e
        cases e
        cases hd : isD (text.getD (fr + k) 0)
        · rfl
        · exact absurd ⟨hl, hd⟩ hs
      · rw [List.drop_eq_nil_of_le (by omega)] at e; cases e
    obtain ⟨t1, t2⟩ := tw_append hall hst
    rw [← hsp] at t1 t2
    have hnum : num most (text.drop fr) = if numBad most ((text.drop fr).take k) = true then none else some (pieceV text fr (fr + k), text.drop (fr + k)) := by
      unfold num pieceV
      rw [t1, t2, show fr + k - fr = k by omega]
    cases ho : numOk text fr k
    · refine .inr ⟨rfl, ?_⟩
      rw [hnum, if_pos]
      unfold numOk at ho
      by_cases hk : k = 0
      · exact num_bad1 (by omega)
      · rw [decide_eq_true (by omega : 0 < k)] at ho
        simp only [Bool.true_and, Bool.or_eq_false_iff, Bool.not_eq_false', decide_eq_false_iff_not] at ho
        refine num_bad3 (by rw [hhead (by omega), eq_of_beq ho.1]) (by omega)
    · unfold numOk at ho
      simp only [Bool.and_eq_true, decide_eq_true_eq, Bool.or_eq_true, Bool.not_eq_true'] at ho
      refine .inl ⟨rfl, ho.1, .inl ?_⟩
      rw [hnum, if_neg]
      rw [num_good (by omega) (by omega) ?_]
      · decide
      · rintro ⟨e1, e2⟩
        rw [hhead ho.1] at e1
        rcases ho.2 with h | h
        · rw [Option.some.inj e1] at h; exact absurd h (by decide)
        · omega
def partW (f : Nat) (text : List UInt8) (pos : Nat) (ns : List NodeD) (x : Int) (ok : Bool) (p' : Nat) (ns' : List NodeD) : Prop :=
  (ok = true ∧ ((∃ t : Tm, gp f (text.drop pos) = some (t, text.drop p') ∧ x = ((ns.length + t.size - 1 : Nat) : Int) ∧ ns' = ns ++ t.nodes ns.length) ∨ (gp f (text.drop pos) = none ∧ p' < text.length ∧ isD (text.getD p' 0) = true))) ∨ (ok = false ∧ ∀ (t : Tm) r, gp f (text.drop pos) = some (t, r) → 16 < ns.length + t.size)
theorem leaf_W {mk : Nat → Tm} {most f pos fr k : Nat} {text : List UInt8} {ns : List NodeD} {kd : Int} (hmk : ∀ n, (mk n).size = 1 ∧ (mk n).nodes ns.length = [⟨kd, (n : Int), 0, 0⟩]) (hg : gp f (text.drop pos) = (num most (text.drop fr)).map fun p => (mk p.1, p.2)) (h : numAt2 most text fr k) (h1 : 1 ≤ most) :
    partW f text pos ns (ns.length : Int) (numOk text fr k) (fr + k) (ns ++ [⟨kd, (pieceV text fr (fr + k) : Int), 0, 0⟩]) ∧ (numOk text fr k = true → 0 < k) := by
  rcases num_read h h1 with ⟨e1, e2, e3 | ⟨e3, e4, e5⟩⟩ | ⟨e1, e3⟩
  · refine ⟨.inl ⟨e1, .inl ⟨mk (pieceV text fr (fr + k)), by rw [hg, e3]; rfl, ?_, by rw [(hmk _).2]⟩⟩, fun _ => e2⟩
    rw [(hmk _).1]; rfl
  · exact ⟨.inl ⟨e1, .inr ⟨by rw [hg, e3]; rfl, e4, e5⟩⟩, fun _ => e2⟩
  · refine ⟨.inr ⟨e1, fun t r ht => ?_⟩, fun h => by rw [e1] at h; cases h⟩
    rw [hg, e3] at ht; cases ht
theorem not_Wt {f pos p' : Nat} {text : List UInt8} {ns ns' : List NodeD} {x : Int} (hd : text.drop pos = 33 :: text.drop (pos + 1)) (h : partW f text (pos + 1) ns x true p' ns') : partW (f + 1) text pos ns (ns'.length : Int) true p' (ns' ++ [⟨10, 0, x, 0⟩]) := by
  rcases h with ⟨_, ⟨t, h1, h2, h3⟩ | ⟨h1, h2, h3⟩⟩ | ⟨h, _⟩
  · have hp := size_pos t
    refine .inl ⟨rfl, .inl ⟨.not t, by rw [hd, gp_not_eq, h1]; rfl, ?_, ?_⟩⟩
    · rw [h3, List.length_append, nodes_len]; simp only [Tm.size]; congr 1
    · rw [h3, h2, List.append_assoc]; rfl
  · exact .inl ⟨rfl, .inr ⟨by rw [hd, gp_not_eq, h1]; rfl, h2, h3⟩⟩
  · cases h
theorem not_Wf {f pos p' : Nat} {text : List UInt8} {ns ns' ns2 : List NodeD} {x y : Int} (hd : text.drop pos = 33 :: text.drop (pos + 1)) (h : partW f text (pos + 1) ns x false p' ns') : partW (f + 1) text pos ns y false p' ns2 := by
  rcases h with ⟨h, _⟩ | ⟨_, h⟩
  · cases h
  · refine .inr ⟨rfl, fun t r ht => ?_⟩
    rw [hd, gp_not_eq] at ht
    cases h1 : gp f (text.drop (pos + 1)) with
    | none => rw [h1] at ht; cases ht
    | some p =>
      rw [h1] at ht
      simp only [Option.map_some, Option.some.injEq, Prod.mk.injEq] at ht
      obtain ⟨rfl, rfl⟩ := ht
      have := h p.1 p.2 h1
      simp only [Tm.size]
      omega
theorem pair_W1 {f pos p' p2 : Nat} {text : List UInt8} {ns ns' ns2 : List NodeD} {x y : Int} (hd : text.drop pos = 40 :: text.drop (pos + 1)) (h : partW f text (pos + 1) ns x false p' ns') : partW (f + 1) text pos ns y false p2 ns2 := by
  rcases h with ⟨h, _⟩ | ⟨_, h⟩
  · cases h
  · refine .inr ⟨rfl, fun t r ht => ?_⟩
    rw [hd] at ht
    obtain ⟨a, r1, k, r2, c, e1, e2, e3, rfl⟩ := gp_pair_inv ht
    have := h a r1 e1
    simp only [Tm.size]
    omega
theorem pair_W2 {f pos p' p2 : Nat} {text : List UInt8} {ns ns' ns2 : List NodeD} {x y : Int} (hd : text.drop pos = 40 :: text.drop (pos + 1)) (h : partW f text (pos + 1) ns x true p' ns') (hs : signF (text.drop p') = none) : partW (f + 1) text pos ns y false p2 ns2 := by
  refine .inr ⟨rfl, fun t r ht => ?_⟩
  rw [hd] at ht
  obtain ⟨a, r1, k, r2, c, e1, e2, e3, rfl⟩ := gp_pair_inv ht
  rcases h with ⟨_, ⟨t, h1, h2, h3⟩ | ⟨h1, h2, h3⟩⟩ | ⟨h, _⟩
  · rw [e1] at h1
    cases h1
    rw [hs] at e2; cases e2
  · rw [e1] at h1; cases h1
  · cases h
theorem sign_dig {text : List UInt8} {p : Nat} {q : Int × List UInt8} (h : signF (text.drop p) = some q) (hp : p < text.length) (hd : isD (text.getD p 0) = true) : False := by
  rw [drop_cons hp] at h
  generalize text.getD p 0 = b at *
  simp only [signF] at h
  cases hk : kindOf b with
  | none => rw [hk] at h; cases h
  | some k =>
    obtain ⟨k1, k2, k3⟩ := kind_in hk
    have := sign_isD k1 k2
    rw [k3, hd] at this
    cases this
/-- The first part and the sign are there. -/
theorem pair_A {f pos p1 : Nat} {text : List UInt8} {ns ns1 : List NodeD} {x : Int} {q : Int × List UInt8} (h : partW f text (pos + 1) ns x true p1 ns1) (hs : signF (text.drop p1) = some q) (hp : p1 < text.length) : ∃ t : Tm, gp f (text.drop (pos + 1)) = some (t, text.drop p1) ∧ x = ((ns.length + t.size - 1 : Nat) : Int) ∧ ns1 = ns ++ t.nodes ns.length := by
  rcases h with ⟨_, ⟨t, h1, h2, h3⟩ | ⟨h1, h2, h3⟩⟩ | ⟨h, _⟩
  · exact ⟨t, h1, h2, h3⟩
  · exact (sign_dig hs hp h3).elim
  · cases h
theorem pair_W4 {f pos p1 p2 p3 : Nat} {text : List UInt8} {ns ns1 ns2 ns3 : List NodeD} {x y z k : Int} (hd : text.drop pos = 40 :: text.drop (pos + 1)) (h : partW f text (pos + 1) ns x true p1 ns1) (hs : signF (text.drop p1) = some (k, text.drop (p1 + 1))) (hp : p1 < text.length) (h2 : partW f text (p1 + 1) ns1 y false p2 ns2) : partW (f + 1) text pos ns z false p3 ns3 := by
  obtain ⟨t, g1, g2, g3⟩ := pair_A h hs hp
  refine .inr ⟨rfl, fun t' r ht => ?_⟩
  rw [hd] at ht
  obtain ⟨a, r1, k', r2, c, e1, e2, e3, rfl⟩ := gp_pair_inv ht
  rw [g1] at e1
  cases e1
  rw [hs] at e2
  cases e2
  rcases h2 with ⟨h, _⟩ | ⟨_, h⟩
  · cases h
  · have := h c _ e3
    rw [g3, List.length_append, nodes_len] at this
    simp only [Tm.size]
    omega
theorem pair_W5 {f pos p1 p2 p3 : Nat} {text : List UInt8} {ns ns1 ns2 ns3 : List NodeD} {x y z k : Int} (hd : text.drop pos = 40 :: text.drop (pos + 1)) (h : partW f text (pos + 1) ns x true p1 ns1) (hs : signF (text.drop p1) = some (k, text.drop (p1 + 1))) (hp : p1 < text.length) (h2 : partW f text (p1 + 1) ns1 y true p2 ns2) (hn : ∀ hp : p2 < text.length, text[p2] ≠ 41) : partW (f + 1) text pos ns z false p3 ns3 := by
  obtain ⟨t, g1, g2, g3⟩ := pair_A h hs hp
  refine .inr ⟨rfl, fun t' r ht => ?_⟩
  rw [hd] at ht
  obtain ⟨a, r1, k', r2, c, e1, e2, e3, rfl⟩ := gp_pair_inv ht
  rw [g1] at e1
  cases e1
  rw [hs] at e2
  cases e2
  rcases h2 with ⟨_, ⟨t2, h1, _, _⟩ | ⟨h1, _, _⟩⟩ | ⟨h, _⟩
  · rw [h1] at e3
    simp only [Option.some.injEq, Prod.mk.injEq] at e3
    by_cases hp2 : p2 < text.length
    · rw [List.drop_eq_getElem_cons hp2] at e3
      exact (hn hp2 (List.cons.inj e3.2).1).elim
    · rw [List.drop_eq_nil_of_le (by omega)] at e3
      cases e3.2
  · rw [h1] at e3; cases e3
  · cases h
theorem pair_W7 {f pos p1 p2 : Nat} {text : List UInt8} {ns ns1 ns2 : List NodeD} {x y k : Int} (hd : text.drop pos = 40 :: text.drop (pos + 1)) (h : partW f text (pos + 1) ns x true p1 ns1) (hs : signF (text.drop p1) = some (k, text.drop (p1 + 1))) (hp : p1 < text.length) (h2 : partW f text (p1 + 1) ns1 y true p2 ns2) (hp2 : p2 < text.length) (hn : text[p2] = 41) : partW (f + 1) text pos ns (ns2.length : Int) true (p2 + 1) (ns2 ++ [⟨k, 0, x, y⟩]) := by
  obtain ⟨t, g1, g2, g3⟩ := pair_A h hs hp
  have hpt := size_pos t
  rcases h2 with ⟨_, ⟨t2, h1, h4, h5⟩ | ⟨h1, _, h6⟩⟩ | ⟨h, _⟩
  · have hpt2 := size_pos t2
    rw [List.drop_eq_getElem_cons hp2, hn] at h1
    refine .inl ⟨rfl, .inl ⟨.pair k t t2, by rw [hd]; exact gp_pair_mk g1 hs h1, ?_, ?_⟩⟩
    · rw [h5, g3]; simp only [List.length_append, nodes_len, Tm.size]; congr 1; omega
    · rw [h5, g2, h4, g3]
      simp only [Tm.nodes, List.length_append, nodes_len, List.append_assoc]
  · rw [getD_eq2 hp2, hn] at h6; exact absurd h6 (by decide)
  · cases h
end Ex
end Go.Proofs.YtdidbnhfknpheaaDoor
