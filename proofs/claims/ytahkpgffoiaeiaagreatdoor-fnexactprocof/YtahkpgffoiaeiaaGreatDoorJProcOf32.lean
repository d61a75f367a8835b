/- Laid together: SxC, SxD. -/
import Derived.Test.YtahkpgffoiaeiaaGreatDoorJProcOf49
/- The specification's reading: plain facts for l3Part. -/
namespace Go.Proofs.YtahkpgffoiaeiaaGreatDoor
open Go.RowKit
set_option linter.unusedVariables false
namespace Ex
open Nd (NodeD)
theorem drop_cons {text : List UInt8} {p : Nat} (h : p < text.length) : text.drop p = text.getD p 0 :: text.drop (p + 1) := by
  rw [List.drop_eq_getElem_cons h, getD_eq2 h]
theorem take_isD {text : List UInt8} {fr m : Nat} (h1 : fr + m ≤ text.length) (h : ∀ j, fr ≤ j → j < fr + m → isD (text.getD j 0) = true) : ∀ b ∈ (text.drop fr).take m, isD b = true := by
  intro b hb
  obtain ⟨i, hi, rfl⟩ := List.getElem_of_mem hb
  rw [List.length_take, List.length_drop] at hi
  have := h (fr + i) (by omega) (by omega)
  rw [getD_eq2 (by omega)] at this
  rw [List.getElem_take, List.getElem_drop]
  exact this
theorem num_read {most fr k : Nat} {text : List UInt8} (h : numAt2 most text fr k) (h1 : 1 ≤ most) :
    (numOk text fr k = true ∧ 0 < k ∧ (num most (text.drop fr) = some (pieceV text fr (fr + k), text.drop (fr + k)) ∨ (num most (text.drop fr) = none ∧ fr + k < text.length ∧ isD (text.getD (fr + k) 0) = true))) ∨ (numOk text fr k = false ∧ num most (text.drop fr) = none) := by
  obtain ⟨g1, g2, g3, g4⟩ := h
  have hsp : text.drop fr = (text.drop fr).take k ++ text.drop (fr + k) := by
    rw [← List.drop_drop]
    exact (List.take_append_drop k _).symm
  have hall := take_isD g2 g3
  have hlen : ((text.drop fr).take k).length = k := by rw [List.length_take, List.length_drop]; omega
  have hhead : 0 < k → ((text.drop fr).take k).head? = some (text.getD fr 0) := fun hk => by
    rw [drop_cons (show fr < text.length by omega), show k = (k - 1) + 1 by omega, List.take_succ_cons]
    rfl
  by_cases hs : fr + k < text.length ∧ isD (text.getD (fr + k) 0) = true
  · have hk : k = most := by
      rcases g4 with g | g | g
      · omega
      · rw [hs.2] at g; cases g
      · exact g
    have hall2 := take_isD (text := text) (fr := fr) (m := k + 1) (by omega) (fun j a b => by
      by_cases e : j = fr + k
      · rw [e]; exact hs.2
      · exact g3 j a (by omega))
    have hbig : most < ((text.drop fr).takeWhile isD).length := by
      rw [← List.take_append_drop (k + 1) (text.drop fr), List.takeWhile_append_of_pos hall2, List.length_append, List.length_take, List.length_drop]
      omega
    have hn : num most (text.drop fr) = none := by unfold num; rw [if_pos (num_bad2 hbig)]
    cases ho : numOk text fr k
    · exact .inr ⟨rfl, hn⟩
    · exact .inl ⟨rfl, by omega, .inr ⟨hn, hs.1, hs.2⟩⟩
  · have hst : stops (text.drop (fr + k)) := by
      intro b s e
      by_cases hl : fr + k < text.length
      · rw [drop_cons hl] at e
        cases e
        cases hd : isD (text.getD (fr + k) 0)
        · rfl
        · exact absurd ⟨hl, hd⟩ hs
      · rw [List.drop_eq_nil_of_le (by omega)] at e; cases e
    obtain ⟨t1, t2⟩ := tw_append hall hst
    rw [← hsp] at t1 t2
    have hnum : num most (text.drop fr) = if numBad most ((text.drop fr).take k) = true then none else some (pieceV text fr (fr + k), text.drop (fr + k)) := by
      unfold num pieceV
      rw [t1, t2, show fr + k - fr = k by omega]
    cases ho : numOk text fr k
    · refine .inr ⟨rfl, ?_⟩
      rw [hnum, if_pos]
      unfold numOk at ho
      by_cases hk : k = 0
      · exact num_bad1 (by omega)
      · rw [decide_eq_true (by omega : 0 < k)] at ho
        simp only [Bool.true_and, Bool.or_eq_false_iff, Bool.not_eq_false', decide_eq_false_iff_not] at ho
        refine num_bad3 (by rw [hhead (by omega), eq_of_beq ho.1]) (by omega)
    · unfold numOk at ho
      simp only [Bool.and_eq_true, decide_eq_true_eq, Bool.or_eq_true, Bool.not_eq_true'] at ho
      refine .inl ⟨rfl, ho.1, .inl ?_⟩
      rw [hnum, if_neg]
      rw [num_good (by omega) (by omega) ?_]
      · decide
      · rintro ⟨e1, e2⟩
        rw [hhead ho.1] at e1
        rcases ho.2 with h | h
        · rw [Option.some.inj e1] at h; exact absurd h (by decide)
        · omega
def partW (f : Nat) (text : List UInt8) (pos : Nat) (ns : List NodeD) (x : Int) (ok : Bool) (p' : Nat) (ns' : List NodeD) : Prop :=
  (ok = true ∧ ((∃ t : Tm, gp f (text.drop pos) = some (t, text.drop p') ∧ x = ((ns.length + t.size - 1 : Nat) : Int) ∧ ns' = ns ++ t.nodes ns.length) ∨ (gp f (text.drop pos) = none ∧ p' < text.length ∧ isD (text.getD p' 0) = true))) ∨ (ok = false ∧ ∀ (t : Tm) r, gp f (text.drop pos) = some (t, r) → 16 < ns.length + t.size)
theorem leaf_W {mk : Nat → Tm} {most f pos fr k : Nat} {text : List UInt8} {ns : List NodeD} {kd : Int} (hmk : ∀ n, (mk n).size = 1 ∧ (mk n).nodes ns.length = [⟨kd, (n : Int), 0, 0⟩]) (hg : gp f (text.drop pos) = (num most (text.drop fr)).map fun p => (mk p.1, p.2)) (h : numAt2 most text fr k) (h1 : 1 ≤ most) :
    partW f text pos ns (ns.length : Int) (numOk text fr k) (fr + k) (ns ++ [⟨kd, (pieceV text fr (fr + k) : Int), 0, 0⟩]) ∧ (numOk text fr k = true → 0 < k) := by
  rcases num_read h h1 with ⟨e1, e2, e3 | ⟨e3, e4, e5⟩⟩ | ⟨e1, e3⟩
  · refine ⟨.inl ⟨e1, .inl ⟨mk (pieceV text fr (fr + k)), by rw [hg, e3]; rfl, ?_, by rw [(hmk _).2]⟩⟩, fun _ => e2⟩
    rw [(hmk _).1]; rfl
  · exact ⟨.inl ⟨e1, .inr ⟨by rw [hg, e3]; rfl, e4, e5⟩⟩, fun _ => e2⟩
  · refine ⟨.inr ⟨e1, fun t r ht => ?_⟩, fun h => by rw [e1] at h; cases h⟩
    rw [hg, e3] at ht; cases ht
theorem not_Wt {f pos p' : Nat} {text : List UInt8} {ns ns' : List NodeD} {x : Int} (hd : text.drop pos = 33 :: text.drop (pos + 1)) (h : partW f text (pos + 1) ns x true p' ns') : partW (f + 1) text pos ns (ns'.length : Int) true p' (ns' ++ [⟨10, 0, x, 0⟩]) := by
  rcases h with ⟨_, ⟨t, h1, h2, h3⟩ | ⟨h1, h2, h3⟩⟩ | ⟨h, _⟩
  · have hp := size_pos t
    refine .inl ⟨rfl, .inl ⟨.not t, by rw [hd, gp_not_eq, h1]; rfl, ?_, ?_⟩⟩
    · rw [h3, List.length_append, nodes_len]; simp only [Tm.size]; congr 1
    · rw [h3, h2, List.append_assoc]; rfl
  · exact .inl ⟨rfl, .inr ⟨by rw [hd, gp_not_eq, h1]; rfl, h2, h3⟩⟩
  · cases h
theorem not_Wf {f pos p' : Nat} {text : List UInt8} {ns ns' ns2 : List NodeD} {x y : Int} (hd : text.drop pos = 33 :: text.drop (pos + 1)) (h : partW f text (pos + 1) ns x false p' ns') : partW (f + 1) text pos ns y false p' ns2 := by
  rcases h with ⟨h, _⟩ | ⟨_, h⟩
  · cases h
  · refine .inr ⟨rfl, fun t r ht => ?_⟩
    rw [hd, gp_not_eq] at ht
    cases h1 : gp f (text.drop (pos + 1)) with
    | none => rw [h1] at ht; cases ht
    | some p =>
      rw [h1] at ht
      simp only [Option.map_some, Option.some.injEq, Prod.mk.injEq] at ht
      obtain ⟨rfl, rfl⟩ := ht
      have := h p.1 p.2 h1
      simp only [Tm.size]
      omega
theorem pair_W1 {f pos p' p2 : Nat} {text : List UInt8} {ns ns' ns2 : List NodeD} {x y : Int} (hd : text.drop pos = 40 :: text.drop (pos + 1)) (h : partW f text (pos + 1) ns x false p' ns') : partW (f + 1) text pos ns y false p2 ns2 := by
  rcases h with ⟨h, _⟩ | ⟨_, h⟩
  · cases h
  · refine .inr ⟨rfl, fun t r ht => ?_⟩
    rw [hd] at ht
    obtain ⟨a, r1, k, r2, c, e1, e2, e3, rfl⟩ := gp_pair_inv ht
    have := h a r1 e1
    simp only [Tm.size]
    omega
theorem pair_W2 {f pos p' p2 : Nat} {text : List UInt8} {ns ns' ns2 : List NodeD} {x y : Int} (hd : text.drop pos = 40 :: text.drop (pos + 1)) (h : partW f text (pos + 1) ns x true p' ns') (hs : signF (text.drop p') = none) : partW (f + 1) text pos ns y false p2 ns2 := by
  refine .inr ⟨rfl, fun t r ht => ?_⟩
  rw [hd] at ht
  obtain ⟨a, r1, k, r2, c, e1, e2, e3, rfl⟩ := gp_pair_inv ht
  rcases h with ⟨_, ⟨t, h1, h2, h3⟩ | ⟨h1, h2, h3⟩⟩ | ⟨h, _⟩
  · rw [e1] at h1
    cases h1
    rw [hs] at e2; cases e2
  · rw [e1] at h1; cases h1
  · cases h
theorem sign_dig {text : List UInt8} {p : Nat} {q : Int × List UInt8} (h : signF (text.drop p) = some q) (hp : p < text.length) (hd : isD (text.getD p 0) = true) : False := by
  rw [drop_cons hp] at h
  generalize text.getD p 0 = b at *
  simp only [signF] at h
  cases hk : kindOf b with
  | none => rw [hk] at h; cases h
  | some k =>
    obtain ⟨k1, k2, k3⟩ := kind_in hk
    have := sign_isD k1 k2
    rw [k3, hd] at this
    cases this
/-- The first part and the sign are there. -/
theorem pair_A {f pos p1 : Nat} {text : List UInt8} {ns ns1 : List NodeD} {x : Int} {q : Int × List UInt8} (h : partW f text (pos + 1) ns x true p1 ns1) (hs : signF (text.drop p1) = some q) (hp : p1 < text.length) : ∃ t : Tm, gp f (text.drop (pos + 1)) = some (t, text.drop p1) ∧ x = ((ns.length + t.size - 1 : Nat) : Int) ∧ ns1 = ns ++ t.nodes ns.length := by
  rcases h with ⟨_, ⟨t, h1, h2, h3⟩ | ⟨h1, h2, h3⟩⟩ | ⟨h, _⟩
  · exact ⟨t, h1, h2, h3⟩
  · exact (sign_dig hs hp h3).elim
  · cases h
theorem pair_W4 {f pos p1 p2 p3 : Nat} {text : List UInt8} {ns ns1 ns2 ns3 : List NodeD} {x y z k : Int} (hd : text.drop pos = 40 :: text.drop (pos + 1)) (h : partW f text (pos + 1) ns x true p1 ns1) (hs : signF (text.drop p1) = some (k, text.drop (p1 + 1))) (hp : p1 < text.length) (h2 : partW f text (p1 + 1) ns1 y false p2 ns2) : partW (f + 1) text pos ns z false p3 ns3 := by
  obtain ⟨t, g1, g2, g3⟩ := pair_A h hs hp
  refine .inr ⟨rfl, fun t' r ht => ?_⟩
  rw [hd] at ht
  obtain ⟨a, r1, k', r2, c, e1, e2, e3, rfl⟩ := gp_pair_inv ht
  rw [g1] at e1
  cases e1
  rw [hs] at e2
  cases e2
  rcases h2 with ⟨h, _⟩ | ⟨_, h⟩
  · cases h
  · have := h c _ e3
    rw [g3, List.length_append, nodes_len] at this
    simp only [Tm.size]
    omega
theorem pair_W5 {f pos p1 p2 p3 : Nat} {text : List UInt8} {ns ns1 ns2 ns3 : List NodeD} {x y z k : Int} (hd : text.drop pos = 40 :: text.drop (pos + 1)) (h : partW f text (pos + 1) ns x true p1 ns1) (hs : signF (text.drop p1) = some (k, text.drop (p1 + 1))) (hp : p1 < text.length) (h2 : partW f text (p1 + 1) ns1 y true p2 ns2) (hn : ∀ hp : p2 < text.length, text[p2] ≠ 41) : partW (f + 1) text pos ns z false p3 ns3 := by
  obtain ⟨t, g1, g2, g3⟩ := pair_A h hs hp
  refine .inr ⟨rfl, fun t' r ht => ?_⟩
  rw [hd] at ht
  obtain ⟨a, r1, k', r2, c, e1, e2, e3, rfl⟩ := gp_pair_inv ht
  rw [g1] at e1
  cases e1
  rw [hs] at e2
  cases e2
  rcases h2 with ⟨_, ⟨t2, h1, _, _⟩ | ⟨h1, _, _⟩⟩ | ⟨h, _⟩
  · rw [h1] at e3
    simp only [Option.some.injEq, Prod.mk.injEq] at e3
    by_cases hp2 : p2 < text.length
    · rw [List.drop_eq_getElem_cons hp2] at e3
      exact (hn hp2 (List.cons.inj e3.2).1).elim
    · rw [List.drop_eq_nil_of_le (by omega)] at e3
      cases e3.2
  · rw [h1] at e3; cases e3
  · cases h
theorem pair_W7 {f pos p1 p2 : Nat} {text : List UInt8} {ns ns1 ns2 : List NodeD} {x y k : Int} (hd : text.drop pos = 40 :: text.drop (pos + 1)) (h : partW f text (pos + 1) ns x true p1 ns1) (hs : signF (text.drop p1) = some (k, text.drop (p1 + 1))) (hp : p1 < text.length) (h2 : partW f text (p1 + 1) ns1 y true p2 ns2) (hp2 : p2 < text.length) (hn : text[p2] = 41) : partW (f + 1) text pos ns (ns2.length : Int) true (p2 + 1) (ns2 ++ [⟨k, 0, x, y⟩]) := by
  obtain ⟨t, g1, g2, g3⟩ := pair_A h hs hp
  have hpt := size_pos t
  rcases h2 with ⟨_, ⟨t2, h1, h4, h5⟩ | ⟨h1, _, h6⟩⟩ | ⟨h, _⟩
  · have hpt2 := size_pos t2
    rw [List.drop_eq_getElem_cons hp2, hn] at h1
    refine .inl ⟨rfl, .inl ⟨.pair k t t2, by rw [hd]; exact gp_pair_mk g1 hs h1, ?_, ?_⟩⟩
    · rw [h5, g3]; simp only [List.length_append, nodes_len, Tm.size]; congr 1; omega
    · rw [h5, g2, h4, g3]
      simp only [Tm.nodes, List.length_append, nodes_len, List.append_assoc]
  · rw [getD_eq2 hp2, hn] at h6; exact absurd h6 (by decide)
  · cases h
end Ex
end Go.Proofs.YtahkpgffoiaeiaaGreatDoor
/- The specification's reading: l3Part. -/
namespace Go.Proofs.YtahkpgffoiaeiaaGreatDoor
open Go.RowKit
set_option linter.unusedVariables false
namespace Ex
open Nd (NodeD)
def slack (ok : Bool) : Nat := if ok = true then 0 else 1
def partPost (f : Nat) (text : List UInt8) (pos : Nat) (ns : List NodeD) (R : Nat) (w : World) (e : Ending) (w' : World) : Prop :=
  ∃ (x : Int) (ok : Bool) (p' : Nat) (ns' : List NodeD), e = .returned (.tuple #[.int .i64 x, .bool ok]) ∧ Sr w' R text p' ns' ∧ pos ≤ p' ∧ p' ≤ text.length ∧ ns'.length ≤ ns.length + (p' - pos) + slack ok ∧ partW f text pos ns x ok p' ns' ∧ Below R w w'
def PartAt (f R : Nat) (text : List UInt8) : Prop := ∀ (pos : Nat) (ns : List NodeD) (w : World), text.length - pos < f → pos ≤ text.length → ns.length + (text.length - pos) ≤ 2000 → Sr w R text pos ns → Calls Tryz.prog 77 #[.pointer (some ⟨R, 0, none⟩)] w (partPost f text pos ns R w)
theorem partNil {f : Nat} {text : List UInt8} {pos : Nat} {ns ns' : List NodeD} {x : Int} {p' : Nat} (h : text.length ≤ pos) : partW f text pos ns x false p' ns' := by
  refine .inr ⟨rfl, fun t r ht => ?_⟩
  rw [List.drop_eq_nil_of_le h] at ht
  cases f <;> (rw [gp] at ht; cases ht)
theorem partMany {f : Nat} {text : List UInt8} {pos : Nat} {ns ns' : List NodeD} {x : Int} {p' : Nat} (h : 16 < ns.length) : partW f text pos ns x false p' ns' := .inr ⟨rfl, fun t r ht => by omega⟩
theorem const_mk {n m : Nat} : (Tm.const (n : Int)).size = 1 ∧ (Tm.const (n : Int)).nodes m = [⟨1, (n : Int), 0, 0⟩] := ⟨rfl, rfl⟩
theorem var_mk {n m : Nat} : (Tm.var (n : Int)).size = 1 ∧ (Tm.var (n : Int)).nodes m = [⟨2, (n : Int), 0, 0⟩] := ⟨rfl, rfl⟩
set_option maxRecDepth 100000 in
set_option maxHeartbeats 16000000 in
theorem specPart (R : Nat) (text : List UInt8) (hl : text.length ≤ 1000) : ∀ (f : Nat), PartAt f R text
  | 0 => fun pos ns w h1 => by omega
  | f + 1 => fun pos ns w h1 hp hb h => by
    have IH := hid (specPart R text hl f)
    obtain ⟨c0, c1, f1, f2, a, cap, c2, ho⟩ := h.c
    have e1 : (str text).size = text.length := str_size text
    have HR := hid h
    clear h ho f1 f2
    unfold partPost
    by_cases g1 : 16 < ns.length
    · have q1 : (16 : Int) < (ns.length : Int) := by omega
      clear IH
      go_enter Tryz.func77, Tryz.ntmps77
      go_wp2
      go_quiet (fail)
      go_wp2
      go_ret2
      exact ⟨0, false, pos, ns, rfl, HR.out.drewN _, Nat.le_refl _, hp, by omega, partMany g1, Ints.below_drewN (Below.refl _ w) _⟩
    have q1 : decide ((16 : Int) < (ns.length : Int)) = false := decide_eq_false (by omega)
    by_cases g2 : text.length ≤ pos
    · have q2 : (text.length : Int) ≤ (pos : Int) := by omega
      clear IH
      go_enter Tryz.func77, Tryz.ntmps77
      go_wp2
      go_quiet (fail)
      go_wp2
      go_ret2
      exact ⟨0, false, pos, ns, rfl, HR.out.drewN _, Nat.le_refl _, hp, by omega, partNil g2, Ints.below_drewN (Below.refl _ w) _⟩
    have q2 : decide ((text.length : Int) ≤ (pos : Int)) = false := decide_eq_false (by omega)
    have hlt : pos < text.length := by omega
    have hdc := drop_cons hlt
    rw [getD_eq2 hlt] at hdc
    have HYv := hid (fun (b : UInt8) (w : World) (h : Sr w R text pos ns) (e : text[pos] = b) => specTakeYes R pos b text ns w h hl hlt e)
    have HNv := hid (fun (b : UInt8) (w : World) (h : Sr w R text pos ns) (e : text[pos] ≠ b) => specTakeNo R pos b text ns w h hl hp (fun _ => e))
    by_cases d1 : text[pos] = 118
    · have HG : Hid (gp (f + 1) (text.drop pos) = (num 1 (text.drop (pos + 1))).map fun p => (.var p.1, p.2)) := hid (by rw [hdc, d1]; exact gp_var_eq)
      have HN := hid (fun (w : World) (h : Sr w R text (pos + 1) ns) => specNum R (pos + 1) 1 text ns w h hl (by omega) (by omega) (by omega))
      have HD1 := hid d1
      clear IH hdc d1 HNv
      go_enter Tryz.func77, Tryz.ntmps77
      go_wp2
      go_quiet (fail)
      have HQ := hid (Ints.below_drewN (Below.refl R w) nq)
      have HRQ := hid (HR.out.drewN nq)
      go_wp2_with fail
      refine (HYv.out 118 _ HRQ.out HD1.out).mono ?_
      rintro e w1 ⟨rfl, hr1, hb1⟩
      have HC := hid (HN.out w1 hr1)
      have HB1 := hid (HQ.out.trans hb1)
      clear hr1 hb1 HYv HRQ HN
      go_wp2_with fail
      refine HC.out.mono ?_
      rintro e w2 ⟨k, hna, rfl, hr2, hb2⟩
      have hk := hna.2.1
      have HW := hid (leaf_W (mk := fun n => Tm.var (n : Int)) (ns := ns) (kd := 2) (fun n => var_mk) HG.out hna (by omega))
      have HP := hid (specPut R (pos + 1 + k) text ns ⟨2, (pieceV text (pos + 1) (pos + 1 + k) : Int), 0, 0⟩ w2 hr2 (by omega))
      have HB2 := hid (HB1.out.trans hb2)
      clear hna hr2 hb2 HC HB1 HG
      generalize pieceV text (pos + 1) (pos + 1 + k) = pv at *
      generalize numOk text (pos + 1) k = ok at *
      go_wp2_with fail
      refine HP.out.mono ?_
      rintro e w3 ⟨rfl, hr3, hb3⟩
      have HR3 := hid hr3
      have HB3 := hid (HB2.out.trans hb3)
      clear hr3 hb3 HP HB2
      go_wp2
      go_ret2
      exact ⟨_, ok, pos + 1 + k, _, rfl, HR3.out, by omega, by omega, by rw [List.length_append, List.length_singleton]; omega, HW.out.1, HB3.out⟩
    by_cases d2 : text[pos] = 33
    · have HD : Hid (text.drop pos = 33 :: text.drop (pos + 1)) := hid (by rw [hdc, d2])
      have HN1 := hid (fun (w : World) (h : Sr w R text pos ns) => HNv.out 118 w h d1)
      have HY1 := hid (fun (w : World) (h : Sr w R text pos ns) => HYv.out 33 w h d2)
      have HI := hid (fun (w : World) (h : Sr w R text (pos + 1) ns) => IH.out (pos + 1) ns w (by omega) (by omega) (by omega) h)
      clear IH hdc d1 d2 HNv HYv
      go_enter Tryz.func77, Tryz.ntmps77
      go_wp2
      go_quiet (fail)
      have HQ := hid (Ints.below_drewN (Below.refl R w) nq)
      have HRQ := hid (HR.out.drewN nq)
      go_wp2_with fail
      refine (HN1.out _ HRQ.out).mono ?_
      rintro e w0 ⟨rfl, hr0, hb0⟩
      have HB0 := hid (HQ.out.trans (hb0.mono (Nat.le_of_lt HRQ.out.lt)))
      have HY := hid (HY1.out w0 hr0)
      clear hr0 hb0 HRQ HN1 HY1 HQ
      go_wp2_with fail
      refine HY.out.mono ?_
      rintro e w1 ⟨rfl, hr1, hb1⟩
      have HC := hid (HI.out w1 hr1)
      have HB1 := hid (HB0.out.trans hb1)
      clear hr1 hb1 HY HI HB0
      go_wp2_with fail
      refine HC.out.mono ?_
      rintro e w2 ⟨x, ok, p', ns', rfl, hr2, hp1, hp2, hn2, hW, hb2⟩
      have HB2 := hid (HB1.out.trans hb2)
      have HWW := hid hW
      have HR2 := hid hr2
      clear hW hr2 hb2 HC HB1
      cases ok
      · go_wp2
        go_ret2
        exact ⟨0, false, p', ns', rfl, HR2.out, by omega, hp2, by simp only [slack, Bool.false_eq_true, if_false] at hn2 ⊢; omega, not_Wf HD.out HWW.out, HB2.out⟩
      · simp only [slack, if_true] at hn2
        have HP := hid (specPut R p' text ns' ⟨10, 0, x, 0⟩ w2 HR2.out (by omega))
        go_wp2_with fail
        refine HP.out.mono ?_
        rintro e w3 ⟨rfl, hr3, hb3⟩
        have HR3 := hid hr3
        have HB3 := hid (HB2.out.trans hb3)
        clear hr3 hb3 HP HB2
        go_wp2
        go_ret2
        exact ⟨_, true, p', _, rfl, HR3.out, by omega, hp2, by rw [List.length_append, List.length_singleton]; omega, not_Wt HD.out HWW.out, HB3.out⟩
    by_cases d3 : text[pos] = 40
    · have HD : Hid (text.drop pos = 40 :: text.drop (pos + 1)) := hid (by rw [hdc, d3])
      have HN1 := hid (fun (w : World) (h : Sr w R text pos ns) => HNv.out 118 w h d1)
      have HN2 := hid (fun (w : World) (h : Sr w R text pos ns) => HNv.out 33 w h d2)
      have HY1 := hid (fun (w : World) (h : Sr w R text pos ns) => HYv.out 40 w h d3)
      have HI := hid (fun (w : World) (h : Sr w R text (pos + 1) ns) => IH.out (pos + 1) ns w (by omega) (by omega) (by omega) h)
      clear hdc d1 d2 d3 HNv HYv
      go_enter Tryz.func77, Tryz.ntmps77
      go_wp2
      go_quiet (fail)
      have HQ := hid (Ints.below_drewN (Below.refl R w) nq)
      have HRQ := hid (HR.out.drewN nq)
      go_wp2_with fail
      refine (HN1.out _ HRQ.out).mono ?_
      rintro e w0 ⟨rfl, hr0, hb0⟩
      have HB0 := hid (HQ.out.trans (hb0.mono (Nat.le_of_lt HRQ.out.lt)))
      have HNN := hid (HN2.out w0 hr0)
      have HL0 := hid hr0.lt
      clear hr0 hb0 HRQ HN1 HN2 HQ
      go_wp2_with fail
      refine HNN.out.mono ?_
      rintro e w0b ⟨rfl, hr0, hb0⟩
      have HB0b := hid (HB0.out.trans (hb0.mono (Nat.le_of_lt HL0.out)))
      have HY := hid (HY1.out w0b hr0)
      clear hr0 hb0 HNN HL0 HB0 HY1
      go_wp2_with fail
      refine HY.out.mono ?_
      rintro e w1 ⟨rfl, hr1, hb1⟩
      have HC := hid (HI.out w1 hr1)
      have HB1 := hid (HB0b.out.trans hb1)
      clear hr1 hb1 HY HI HB0b
      go_wp2_with fail
      refine HC.out.mono ?_
      rintro e w2 ⟨x, ok, p1, ns1, rfl, hr2, hp1, hp2, hn2, hW, hb2⟩
      have HB2 := hid (HB1.out.trans hb2)
      have HW1 := hid hW
      have HR2 := hid hr2
      clear hW hr2 hb2 HC HB1
      cases ok
      · go_wp2
        go_ret2
        exact ⟨0, false, p1, ns1, rfl, HR2.out, by omega, hp2, by simp only [slack, Bool.false_eq_true, if_false] at hn2 ⊢; omega, pair_W1 HD.out HW1.out, HB2.out⟩
      simp only [slack, if_true] at hn2
      have HS := hid (specSign R p1 text ns1 w2 HR2.out hl hp2)
      go_wp2_with fail
      refine HS.out.mono ?_
      rintro e w3 hsg
      clear HS HR2
      rcases hsg with ⟨k, hs, hlt1, rfl, hr3, hb3⟩ | ⟨hs, rfl, hr3, hb3⟩
      · have hk := sign_in hs
        have hk0 : (k == 0) = false := by simp; omega
        have HSG := hid hs
        have HB3 := hid (HB2.out.trans hb3)
        have HC2 := hid (IH.out (p1 + 1) ns1 w3 (by omega) (by omega) (by omega) hr3)
        clear hs hr3 hb3 HB2 hk IH
        go_wp2_with fail
        refine HC2.out.mono ?_
        rintro e w4 ⟨y, ok2, p2, ns2, rfl, hr4, hp3, hp4, hn4, hW2, hb4⟩
        have HB4 := hid (HB3.out.trans hb4)
        have HW2 := hid hW2
        have HR4 := hid hr4
        clear hW2 hr4 hb4 HC2 HB3
        cases ok2
        · simp only [slack, Bool.false_eq_true, if_false] at hn4
          go_wp2
          go_ret2
          exact ⟨0, false, p2, ns2, rfl, HR4.out, by omega, hp4, by simp only [slack, Bool.false_eq_true, if_false]; omega, pair_W4 HD.out HW1.out HSG.out hlt1 HW2.out, HB4.out⟩
        simp only [slack, if_true] at hn4
        by_cases d4 : ∃ hp : p2 < text.length, text[p2] = 41
        · obtain ⟨hp5, d4⟩ := d4
          have HT := hid (specTakeYes R p2 41 text ns2 w4 HR4.out hl hp5 d4)
          have HD4 := hid d4
          clear d4
          go_wp2_with fail
          refine HT.out.mono ?_
          rintro e w5 ⟨rfl, hr5, hb5⟩
          have HB5 := hid (HB4.out.trans hb5)
          have HP := hid (specPut R (p2 + 1) text ns2 ⟨k, 0, x, y⟩ w5 hr5 (by omega))
          clear hr5 hb5 HT HB4 HR4
          go_wp2_with fail
          refine HP.out.mono ?_
          rintro e w6 ⟨rfl, hr6, hb6⟩
          have HR6 := hid hr6
          have HB6 := hid (HB5.out.trans hb6)
          clear hr6 hb6 HP HB5
          go_wp2
          go_ret2
          exact ⟨_, true, p2 + 1, _, rfl, HR6.out, by omega, by omega, by rw [List.length_append, List.length_singleton]; omega, pair_W7 HD.out HW1.out HSG.out hlt1 HW2.out hp5 HD4.out, HB6.out⟩
        · have HT := hid (specTakeNo R p2 41 text ns2 w4 HR4.out hl hp4 (fun hp e => d4 ⟨hp, e⟩))
          have HD4 : Hid (∀ hp : p2 < text.length, text[p2] ≠ 41) := hid (fun hp e => d4 ⟨hp, e⟩)
          have HL4 := hid HR4.out.lt
          clear d4
          go_wp2_with fail
          refine HT.out.mono ?_
          rintro e w5 ⟨rfl, hr5, hb5⟩
          have HR5 := hid hr5
          have HB5 := hid (HB4.out.trans (hb5.mono (Nat.le_of_lt HL4.out)))
          clear hr5 hb5 HT HB4 HR4
          go_wp2
          go_ret2
          exact ⟨0, false, p2, ns2, rfl, HR5.out, by omega, hp4, by omega, pair_W5 HD.out HW1.out HSG.out hlt1 HW2.out HD4.out, HB5.out⟩
      · have HSG := hid hs
        have HB3 := hid (HB2.out.trans hb3)
        have HC2 := hid (IH.out p1 ns1 w3 (by omega) (by omega) (by omega) hr3)
        clear hs hr3 hb3 HB2 IH
        go_wp2_with fail
        refine HC2.out.mono ?_
        rintro e w4 ⟨y, ok2, p2, ns2, rfl, hr4, hp3, hp4, hn4, hW2, hb4⟩
        have HB4 := hid (HB3.out.trans hb4)
        have HR4 := hid hr4
        have hsl : slack ok2 ≤ 1 := by cases ok2 <;> decide
        clear hW2 hr4 hb4 HC2 HB3
        go_wp2
        go_ret2
        exact ⟨0, false, p2, ns2, rfl, HR4.out, by omega, hp4, by simp only [slack, Bool.false_eq_true, if_false]; omega, pair_W2 HD.out HW1.out HSG.out, HB4.out⟩
    have HG : Hid (gp (f + 1) (text.drop pos) = (num 4 (text.drop pos)).map fun p => (.const p.1, p.2)) := hid (by rw [hdc]; exact gp_const_eq d3 d2 d1)
    have HN1 := hid (fun (w : World) (h : Sr w R text pos ns) => HNv.out 118 w h d1)
    have HN2 := hid (fun (w : World) (h : Sr w R text pos ns) => HNv.out 33 w h d2)
    have HN3 := hid (fun (w : World) (h : Sr w R text pos ns) => HNv.out 40 w h d3)
    have HN := hid (fun (w : World) (h : Sr w R text pos ns) => specNum R pos 4 text ns w h hl (by omega) (by omega) (by omega))
    clear hdc d1 d2 d3 HNv HYv IH
    go_enter Tryz.func77, Tryz.ntmps77
    go_wp2
    go_quiet (fail)
    have HQ := hid (Ints.below_drewN (Below.refl R w) nq)
    have HRQ := hid (HR.out.drewN nq)
    go_wp2_with fail
    refine (HN1.out _ HRQ.out).mono ?_
    rintro e w0 ⟨rfl, hr0, hb0⟩
    have HB0 := hid (HQ.out.trans (hb0.mono (Nat.le_of_lt HRQ.out.lt)))
    have HNN := hid (HN2.out w0 hr0)
    have HL0 := hid hr0.lt
    clear hr0 hb0 HRQ HN1 HN2 HQ
    go_wp2_with fail
    refine HNN.out.mono ?_
    rintro e w0b ⟨rfl, hr0, hb0⟩
    have HB0b := hid (HB0.out.trans (hb0.mono (Nat.le_of_lt HL0.out)))
    have HNN2 := hid (HN3.out w0b hr0)
    have HL0b := hid hr0.lt
    clear hr0 hb0 HNN HL0 HB0 HN3
    go_wp2_with fail
    refine HNN2.out.mono ?_
    rintro e w1 ⟨rfl, hr1, hb1⟩
    have HC := hid (HN.out w1 hr1)
    have HB1 := hid (HB0b.out.trans (hb1.mono (Nat.le_of_lt HL0b.out)))
    clear hr1 hb1 HNN2 HL0b HB0b HN
    go_wp2_with fail
    refine HC.out.mono ?_
    rintro e w2 ⟨k, hna, rfl, hr2, hb2⟩
    have hk := hna.2.1
    have HW := hid (leaf_W (mk := fun n => Tm.const (n : Int)) (ns := ns) (kd := 1) (fun n => const_mk) HG.out hna (by omega))
    have HP := hid (specPut R (pos + k) text ns ⟨1, (pieceV text pos (pos + k) : Int), 0, 0⟩ w2 hr2 (by omega))
    have HB2 := hid (HB1.out.trans hb2)
    clear hna hr2 hb2 HC HB1 HG
    generalize pieceV text pos (pos + k) = pv at *
    generalize numOk text pos k = ok at *
    go_wp2_with fail
    refine HP.out.mono ?_
    rintro e w3 ⟨rfl, hr3, hb3⟩
    have HR3 := hid hr3
    have HB3 := hid (HB2.out.trans hb3)
    clear hr3 hb3 HP HB2
    go_wp2
    go_ret2
    refine ⟨_, ok, pos + k, _, rfl, HR3.out, by omega, by omega, ?_, HW.out.1, HB3.out⟩
    rw [List.length_append, List.length_singleton]
    have := HW.out.2
    cases ok
    · simp only [slack, Bool.false_eq_true, if_false]; omega
    · have := this rfl; omega
end Ex
end Go.Proofs.YtahkpgffoiaeiaaGreatDoor
