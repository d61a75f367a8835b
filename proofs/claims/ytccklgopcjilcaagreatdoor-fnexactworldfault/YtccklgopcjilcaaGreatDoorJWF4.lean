/- The specification's TypeOf. -/
import Derived.Test.YtccklgopcjilcaaGreatDoorJWF3
namespace Go.Proofs.YtccklgopcjilcaaGreatDoor
open Go.RowKit
set_option linter.unusedVariables false
namespace Ex
open Nd (NodeD)
def tyOf (k : Int) : Int := if 7 ≤ k then 2 else 1
def wantOf (k : Int) : Int := if k = 9 ∨ k = 10 then 2 else 1
def ty (ns : List NodeD) (j : Nat) : Int := tyOf (NJ ns j).kind
def badAt (ns : List NodeD) (i : Nat) : Bool := (decide (2 < (NJ ns i).kind) && (ty ns (NJ ns i).left.toNat != wantOf (NJ ns i).kind)) || (two (NJ ns i).kind && (ty ns (NJ ns i).right.toNat != wantOf (NJ ns i).kind))
def tOk (ns : List NodeD) : Bool := (List.range ns.length).all (fun j => !badAt ns j)
def typeCode (ns : List NodeD) : Int := if eFault ns ≠ 0 then eFault ns else if tOk ns = true then 0 else 7
def typeVal (ns : List NodeD) : Int := if typeCode ns = 0 then ty ns (ns.length - 1) else 0
theorem tOk_bad {ns : List NodeD} {i : Nat} (hi : i < ns.length) (h : badAt ns i = true) : tOk ns = false := by
  unfold tOk
  rw [List.all_eq_false]
  exact ⟨i, by simpa using hi, by simp [h]⟩
theorem tOk_all {ns : List NodeD} (h : ∀ j, j < ns.length → badAt ns j = false) : tOk ns = true := by
  unfold tOk
  rw [List.all_eq_true]
  intro j hj
  rw [h j (by simpa using hj)]
  rfl
theorem ty_fault {ns : List NodeD} (h : eFault ns ≠ 0) : typeCode ns = eFault ns ∧ typeVal ns = 0 := by
  have e : typeCode ns = eFault ns := by unfold typeCode; rw [if_pos h]
  exact ⟨e, by unfold typeVal; rw [if_neg (by rw [e]; exact h)]⟩
theorem ty_bad {ns : List NodeD} (h : eFault ns = 0) (h2 : tOk ns = false) : typeCode ns = 7 ∧ typeVal ns = 0 := by
  have e : typeCode ns = 7 := by unfold typeCode; rw [if_neg (by simp [h]), if_neg (by simp [h2])]
  exact ⟨e, by unfold typeVal; rw [if_neg (by rw [e]; decide)]⟩
theorem ty_ok {ns : List NodeD} (h : eFault ns = 0) (h2 : tOk ns = true) : typeCode ns = 0 ∧ typeVal ns = ty ns (ns.length - 1) := by
  have e : typeCode ns = 0 := by unfold typeCode; rw [if_neg (by simp [h]), if_pos h2]
  exact ⟨e, by unfold typeVal; rw [if_pos e]⟩
theorem of_e {ns : List NodeD} (h : eFault ns = 0) : 0 < ns.length ∧ ns.length ≤ 16 ∧ ∀ k, k < ns.length → nCode (NJ ns k) k = 0 := by
  by_cases z : ns.length < 1 ∨ 16 < ns.length
  · rw [e_many z] at h; omega
  · refine ⟨by omega, by omega, ?_⟩
    unfold eFault at h
    rw [if_neg z] at h
    by_cases h2 : eCodeTo ns ns.length ≠ 0
    · rw [if_pos h2] at h; exact absurd h h2
    · exact code_all (by simpa using h2)
/-- The types of the first nodes, as they lie in memory. -/
def tyVals (ns : List NodeD) (i : Nat) : List Value := (List.range i).map fun j => .int .i64 (ty ns j)
theorem tyVals_len (ns : List NodeD) (i : Nat) : (tyVals ns i).length = i := by simp [tyVals]
theorem tyVals_succ (ns : List NodeD) (i : Nat) : tyVals ns (i + 1) = tyVals ns i ++ [.int .i64 (ty ns i)] := by simp [tyVals, List.range_succ]
theorem ty_cell {w : World} {base g cap i j : Nat} {e : TypeId} {ns : List NodeD} (h : w.ownsRow base e 1 (.slice (some ⟨g, 0, none⟩) i cap) i (tyVals ns i)) (hj : j < i) : w.cell? ⟨g, j, none⟩ = some (.int .i64 (ty ns j)) := by
  have h1 := owns_cell h hj (by rw [tyVals_len]; exact hj)
  simpa [tyVals] using h1
theorem owns_some {w : World} {base n cap : Nat} {e : TypeId} {a : Option Addr} {xs : List Value} (h : w.ownsRow base e 1 (.slice a n cap) n xs) (hn : 0 < n) : ∃ g, a = some ⟨g, 0, none⟩ ∧ g < w.heap.size := by
  obtain ⟨_, ⟨e1, e2⟩ | ⟨g', cap', cur, e1, _, hg, _⟩⟩ := h
  · omega
  · cases e1; exact ⟨g', rfl, (Array.getElem?_eq_some_iff.1 hg).1⟩
theorem cell_one (w : World) (b : Nat) (hb : b = w.heap.size) (x : Value) (t : TypeId) : ∀ j u, [x][j]? = some u → (w.alloc (.cells #[x] t)).cell? ((⟨b, 0, none⟩ : Addr).add j) = some u := by
  subst hb
  exact cell_one_new w x t
set_option maxRecDepth 100000 in
set_option maxHeartbeats 8000000 in
theorem specTypes (B : Nat) (ns : List NodeD) (v : Value) (w : World) (hl : ns.length ≤ 16) (hok : ∀ k, k < ns.length → nCode (NJ ns k) k = 0) (ha : Nd.At w B v ns) :
    Calls Tryz.prog 246 #[v] w fun e w' => (∃ u, e = .returned (.tuple #[u, .bool (tOk ns)]) ∧ (tOk ns = true → w'.ownsRow w.heap.size 2 1 u ns.length (tyVals ns ns.length))) ∧ Below w.heap.size w w' := by
  obtain ⟨a, cap, rfl⟩ := ha.slice
  have HA := hid ha
  have HN := hid hok
  clear ha hok
  obtain ⟨j0, hj, hy0, hy1, hy2⟩ := info_parts infoI64
  go_enter Tryz.func246, Tryz.ntmps246
  go_wp2
  go_loopw [4, 5, 6, 7, 8] (fun t x _ _ _ wr => ∃ (i : Nat), x = .int .i64 i ∧ i ≤ ns.length ∧ (∃ a5 c5, t = .slice a5 i c5) ∧ Hid (wr.ownsRow w.heap.size 2 1 t i (tyVals ns i)) ∧ Hid (∀ j, j < i → badAt ns j = false) ∧ Below w.heap.size w wr) (fun _ x _ _ _ _ => ns.length - (intOf x).toNat)
  case atStart => exact ⟨0, rfl, Nat.zero_le _, ⟨_, _, rfl⟩, World.ownsRow_made w #[] 0 (Nat.le_refl _) (by unfold maxLen; omega) rfl, hid (fun j h => by omega), (Below.refl _ w).alloc (Nat.le_refl _) _⟩
  case round =>
    obtain ⟨i, rfl, hi, ⟨a5, c5, rfl⟩, HO, HB, hbel⟩ := hrel
    have hz := hbel.size
    by_cases hlt : i < ns.length
    · obtain ⟨g, o, rfl, hg, c0, c1, c2, c3⟩ := (HA.out.below hbel).at hlt
      have q1 : (i : Int) < (ns.length : Int) := by omega
      have hn := HN.out i hlt
      have HNJ := hid (NJ_eq hlt)
      rw [HNJ.out] at hn
      have HT := hid (fun w' => specTwo ns[i].kind w')
      have HBI : Hid (badAt ns i = ((decide (2 < ns[i].kind) && (ty ns ns[i].left.toNat != wantOf ns[i].kind)) || (two ns[i].kind && (ty ns ns[i].right.toNat != wantOf ns[i].kind)))) := hid (by unfold badAt; rw [HNJ.out])
      have HTI : Hid (ty ns i = tyOf ns[i].kind) := hid (by unfold ty; rw [HNJ.out])
      have hkd := inR_iff.1 (of_n hn).1
      have hown := HO.out
      have HBS : Hid (badAt ns i = false → ∀ j, j < i + 1 → badAt ns j = false) := hid (fun h j hj => by
        by_cases e : j = i
        · rw [e]; exact h
        · exact HB.out j (by omega))
      have HSU := hid (tyVals_succ ns i)
      by_cases k2 : 2 < ns[i].kind
      · have hnl := n_left hn k2
        obtain ⟨l, hle⟩ : ∃ l : Nat, ns[i].left = (l : Int) := ⟨ns[i].left.toNat, by omega⟩
        have hli : l < i := by omega
        obtain ⟨g5, rfl, hg5⟩ := owns_some hown (by omega)
        have m1 := ty_cell hown hli
        have ql : (l : Int) < (i : Int) := by omega
        have HLN : Hid (ns[i].left.toNat = l) := hid (by rw [hle]; simp)
        rw [HLN.out] at HBI
        rw [hle] at c2
        clear hnl hle
        generalize ty ns l = tl at *
        by_cases k7 : 7 ≤ ns[i].kind
        · by_cases k9 : ns[i].kind = 9
          · have t9 : (ns[i].kind == 9) = true := beq_iff_eq.2 k9
            have ht : two ns[i].kind = true := inR_iff.2 (by omega)
            have hw : wantOf ns[i].kind = 2 := by unfold wantOf; rw [if_pos (by omega)]
            have hnr := n_right hn ht
            obtain ⟨r, hre⟩ : ∃ r : Nat, ns[i].right = (r : Int) := ⟨ns[i].right.toNat, by omega⟩
            have hri : r < i := by omega
            have m2 := ty_cell hown hri
            have qr : (r : Int) < (i : Int) := by omega
            have HRN : Hid (ns[i].right.toNat = r) := hid (by rw [hre]; simp)
            rw [HRN.out, hw, ht] at HBI
            rw [ht] at HT
            rw [hre] at c3
            clear hnr hre ht hw HRN HLN
            generalize ty ns r = tr at *
            cases e1 : (tl != 2)
            · cases e2 : (tr != 2)
              · skip
                have HB0 : Hid (badAt ns i = false) := hid (by rw [HBI.out, e1, e2]; simp)
                have HTV : Hid (ty ns i = 2) := hid (by rw [HTI.out]; unfold tyOf; rw [if_pos (by omega)])
                clear hn HBI HTI hkd k9
                generalize ns[i] = nd at *
                go_wp2_with (first | (go_at_call 259; refine (HT.out _).mono ?_; rintro e w2 ⟨rfl, rfl⟩) | (at_builtin; go_must (refine wpList_append_own _ rfl _ _ 110 rfl w.heap.size 2 j0 (.int .i64 0) 1 8 Tryz.underlying110 hj hy0 hy1 hy2 rfl (by decide) _ _ _ rfl ((hown.alloc _).alloc _) ⟨_, 0, none⟩ 1 1 [.int .i64 2] rfl rfl (cell_one _ _ (by simp) _ _) (by simp [Value.oneCell']) (by unfold maxLen; omega) (by first | omega | (simp; omega)) (by first | omega | (simp; omega)) ?_); intro v' w3 hown' hgrow _; obtain ⟨g9, c9, rfl⟩ := ownsRow_succ hown'))
                have hB3 : Below w.heap.size w w3 := ((hbel.alloc hz _).alloc (by simp; omega) _).grown hgrow (by simp; omega) (fun b e => (own_lt hown e).1)
                refine ⟨⟨i + 1, by simp, by omega, ⟨_, _, rfl⟩, hid ?_, hid (HBS.out HB0.out), hB3⟩, by simp [intOf]; omega⟩
                rw [HSU.out, HTV.out]
                exact hown'
              · skip
                have HB0 : Hid (badAt ns i = true) := hid (by rw [HBI.out, e2]; simp)
                have HV := hid (tOk_bad hlt HB0.out)
                clear hn HBI HTI hkd k9
                generalize ns[i] = nd at *
                go_wp2_with (first | (go_at_call 259; refine (HT.out _).mono ?_; rintro e w2 ⟨rfl, rfl⟩))
                go_ret2
                exact ⟨⟨_, by rw [HV.out]; rfl, fun h => by rw [HV.out] at h; cases h⟩, hbel.alloc hz _⟩
            · skip
              have HB0 : Hid (badAt ns i = true) := hid (by rw [HBI.out, e1]; simp [k2])
              have HV := hid (tOk_bad hlt HB0.out)
              clear hn HBI HTI hkd k9
              generalize ns[i] = nd at *
              go_wp2_with (first | (go_at_call 259; refine (HT.out _).mono ?_; rintro e w2 ⟨rfl, rfl⟩))
              go_ret2
              exact ⟨⟨_, by rw [HV.out]; rfl, fun h => by rw [HV.out] at h; cases h⟩, hbel.alloc hz _⟩
          · have t9 : (ns[i].kind == 9) = false := beq_eq_false_iff_ne.2 k9
            by_cases k10 : ns[i].kind = 10
            · have t10 : (ns[i].kind == 10) = true := beq_iff_eq.2 k10
              have ht : two ns[i].kind = false := inR_not.2 (by omega)
              have hw : wantOf ns[i].kind = 2 := by unfold wantOf; rw [if_pos (by omega)]
              rw [hw, ht] at HBI
              rw [ht] at HT
              clear ht hw HLN
              cases e1 : (tl != 2)
              · skip
                have HB0 : Hid (badAt ns i = false) := hid (by rw [HBI.out, e1]; simp)
                have HTV : Hid (ty ns i = 2) := hid (by rw [HTI.out]; unfold tyOf; rw [if_pos (by omega)])
                clear hn HBI HTI hkd k10 k9
                generalize ns[i] = nd at *
                go_wp2_with (first | (go_at_call 259; refine (HT.out _).mono ?_; rintro e w2 ⟨rfl, rfl⟩) | (at_builtin; go_must (refine wpList_append_own _ rfl _ _ 110 rfl w.heap.size 2 j0 (.int .i64 0) 1 8 Tryz.underlying110 hj hy0 hy1 hy2 rfl (by decide) _ _ _ rfl ((hown.alloc _).alloc _) ⟨_, 0, none⟩ 1 1 [.int .i64 2] rfl rfl (cell_one _ _ (by simp) _ _) (by simp [Value.oneCell']) (by unfold maxLen; omega) (by first | omega | (simp; omega)) (by first | omega | (simp; omega)) ?_); intro v' w3 hown' hgrow _; obtain ⟨g9, c9, rfl⟩ := ownsRow_succ hown'))
                have hB3 : Below w.heap.size w w3 := ((hbel.alloc hz _).alloc (by simp; omega) _).grown hgrow (by simp; omega) (fun b e => (own_lt hown e).1)
                refine ⟨⟨i + 1, by simp, by omega, ⟨_, _, rfl⟩, hid ?_, hid (HBS.out HB0.out), hB3⟩, by simp [intOf]; omega⟩
                rw [HSU.out, HTV.out]
                exact hown'
              · skip
                have HB0 : Hid (badAt ns i = true) := hid (by rw [HBI.out, e1]; simp [k2])
                have HV := hid (tOk_bad hlt HB0.out)
                clear hn HBI HTI hkd k10 k9
                generalize ns[i] = nd at *
                go_wp2_with (first | (go_at_call 259; refine (HT.out _).mono ?_; rintro e w2 ⟨rfl, rfl⟩))
                go_ret2
                exact ⟨⟨_, by rw [HV.out]; rfl, fun h => by rw [HV.out] at h; cases h⟩, hbel.alloc hz _⟩
            · have t10 : (ns[i].kind == 10) = false := beq_eq_false_iff_ne.2 k10
              have ht : two ns[i].kind = true := inR_iff.2 (by omega)
              have hw : wantOf ns[i].kind = 1 := by unfold wantOf; rw [if_neg (by omega)]
              have hnr := n_right hn ht
              obtain ⟨r, hre⟩ : ∃ r : Nat, ns[i].right = (r : Int) := ⟨ns[i].right.toNat, by omega⟩
              have hri : r < i := by omega
              have m2 := ty_cell hown hri
              have qr : (r : Int) < (i : Int) := by omega
              have HRN : Hid (ns[i].right.toNat = r) := hid (by rw [hre]; simp)
              rw [HRN.out, hw, ht] at HBI
              rw [ht] at HT
              rw [hre] at c3
              clear hnr hre ht hw HRN HLN
              generalize ty ns r = tr at *
              cases e1 : (tl != 1)
              · cases e2 : (tr != 1)
                · skip
                  have HB0 : Hid (badAt ns i = false) := hid (by rw [HBI.out, e1, e2]; simp)
                  have HTV : Hid (ty ns i = 2) := hid (by rw [HTI.out]; unfold tyOf; rw [if_pos (by omega)])
                  clear hn HBI HTI hkd k9 k10
                  generalize ns[i] = nd at *
                  go_wp2_with (first | (go_at_call 259; refine (HT.out _).mono ?_; rintro e w2 ⟨rfl, rfl⟩) | (at_builtin; go_must (refine wpList_append_own _ rfl _ _ 110 rfl w.heap.size 2 j0 (.int .i64 0) 1 8 Tryz.underlying110 hj hy0 hy1 hy2 rfl (by decide) _ _ _ rfl ((hown.alloc _).alloc _) ⟨_, 0, none⟩ 1 1 [.int .i64 2] rfl rfl (cell_one _ _ (by simp) _ _) (by simp [Value.oneCell']) (by unfold maxLen; omega) (by first | omega | (simp; omega)) (by first | omega | (simp; omega)) ?_); intro v' w3 hown' hgrow _; obtain ⟨g9, c9, rfl⟩ := ownsRow_succ hown'))
                  have hB3 : Below w.heap.size w w3 := ((hbel.alloc hz _).alloc (by simp; omega) _).grown hgrow (by simp; omega) (fun b e => (own_lt hown e).1)
                  refine ⟨⟨i + 1, by simp, by omega, ⟨_, _, rfl⟩, hid ?_, hid (HBS.out HB0.out), hB3⟩, by simp [intOf]; omega⟩
                  rw [HSU.out, HTV.out]
                  exact hown'
                · skip
                  have HB0 : Hid (badAt ns i = true) := hid (by rw [HBI.out, e2]; simp)
                  have HV := hid (tOk_bad hlt HB0.out)
                  clear hn HBI HTI hkd k9 k10
                  generalize ns[i] = nd at *
                  go_wp2_with (first | (go_at_call 259; refine (HT.out _).mono ?_; rintro e w2 ⟨rfl, rfl⟩))
                  go_ret2
                  exact ⟨⟨_, by rw [HV.out]; rfl, fun h => by rw [HV.out] at h; cases h⟩, hbel.alloc hz _⟩
              · skip
                have HB0 : Hid (badAt ns i = true) := hid (by rw [HBI.out, e1]; simp [k2])
                have HV := hid (tOk_bad hlt HB0.out)
                clear hn HBI HTI hkd k9 k10
                generalize ns[i] = nd at *
                go_wp2_with (first | (go_at_call 259; refine (HT.out _).mono ?_; rintro e w2 ⟨rfl, rfl⟩))
                go_ret2
                exact ⟨⟨_, by rw [HV.out]; rfl, fun h => by rw [HV.out] at h; cases h⟩, hbel.alloc hz _⟩
        · have t9 : (ns[i].kind == 9) = false := beq_eq_false_iff_ne.2 (by omega)
          have t10 : (ns[i].kind == 10) = false := beq_eq_false_iff_ne.2 (by omega)
          have ht : two ns[i].kind = true := inR_iff.2 (by omega)
          have hw : wantOf ns[i].kind = 1 := by unfold wantOf; rw [if_neg (by omega)]
          have hnr := n_right hn ht
          obtain ⟨r, hre⟩ : ∃ r : Nat, ns[i].right = (r : Int) := ⟨ns[i].right.toNat, by omega⟩
          have hri : r < i := by omega
          have m2 := ty_cell hown hri
          have qr : (r : Int) < (i : Int) := by omega
          have HRN : Hid (ns[i].right.toNat = r) := hid (by rw [hre]; simp)
          rw [HRN.out, hw, ht] at HBI
          rw [ht] at HT
          rw [hre] at c3
          clear hnr hre ht hw HRN HLN
          generalize ty ns r = tr at *
          cases e1 : (tl != 1)
          · cases e2 : (tr != 1)
            · skip
              have HB0 : Hid (badAt ns i = false) := hid (by rw [HBI.out, e1, e2]; simp)
              have HTV : Hid (ty ns i = 1) := hid (by rw [HTI.out]; unfold tyOf; rw [if_neg (by omega)])
              clear hn HBI HTI hkd 
              generalize ns[i] = nd at *
              go_wp2_with (first | (go_at_call 259; refine (HT.out _).mono ?_; rintro e w2 ⟨rfl, rfl⟩) | (at_builtin; go_must (refine wpList_append_own _ rfl _ _ 110 rfl w.heap.size 2 j0 (.int .i64 0) 1 8 Tryz.underlying110 hj hy0 hy1 hy2 rfl (by decide) _ _ _ rfl ((hown.alloc _).alloc _) ⟨_, 0, none⟩ 1 1 [.int .i64 1] rfl rfl (cell_one _ _ (by simp) _ _) (by simp [Value.oneCell']) (by unfold maxLen; omega) (by first | omega | (simp; omega)) (by first | omega | (simp; omega)) ?_); intro v' w3 hown' hgrow _; obtain ⟨g9, c9, rfl⟩ := ownsRow_succ hown'))
              have hB3 : Below w.heap.size w w3 := ((hbel.alloc hz _).alloc (by simp; omega) _).grown hgrow (by simp; omega) (fun b e => (own_lt hown e).1)
              refine ⟨⟨i + 1, by simp, by omega, ⟨_, _, rfl⟩, hid ?_, hid (HBS.out HB0.out), hB3⟩, by simp [intOf]; omega⟩
              rw [HSU.out, HTV.out]
              exact hown'
            · skip
              have HB0 : Hid (badAt ns i = true) := hid (by rw [HBI.out, e2]; simp)
              have HV := hid (tOk_bad hlt HB0.out)
              clear hn HBI HTI hkd 
              generalize ns[i] = nd at *
              go_wp2_with (first | (go_at_call 259; refine (HT.out _).mono ?_; rintro e w2 ⟨rfl, rfl⟩))
              go_ret2
              exact ⟨⟨_, by rw [HV.out]; rfl, fun h => by rw [HV.out] at h; cases h⟩, hbel.alloc hz _⟩
          · skip
            have HB0 : Hid (badAt ns i = true) := hid (by rw [HBI.out, e1]; simp [k2])
            have HV := hid (tOk_bad hlt HB0.out)
            clear hn HBI HTI hkd 
            generalize ns[i] = nd at *
            go_wp2_with (first | (go_at_call 259; refine (HT.out _).mono ?_; rintro e w2 ⟨rfl, rfl⟩))
            go_ret2
            exact ⟨⟨_, by rw [HV.out]; rfl, fun h => by rw [HV.out] at h; cases h⟩, hbel.alloc hz _⟩
      · have t9 : (ns[i].kind == 9) = false := beq_eq_false_iff_ne.2 (by omega)
        have t10 : (ns[i].kind == 10) = false := beq_eq_false_iff_ne.2 (by omega)
        have k7 : ¬ 7 ≤ ns[i].kind := by omega
        have ht : two ns[i].kind = false := inR_not.2 (by omega)
        rw [ht] at HBI
        rw [ht] at HT
        have HB0 : Hid (badAt ns i = false) := hid (by rw [HBI.out]; simp [k2])
        have HTV : Hid (ty ns i = 1) := hid (by rw [HTI.out]; unfold tyOf; rw [if_neg (by omega)])
        clear hn HBI HTI hkd ht
        generalize ns[i] = nd at *
        go_wp2_with (first | (go_at_call 259; refine (HT.out _).mono ?_; rintro e w2 ⟨rfl, rfl⟩) | (at_builtin; go_must (refine wpList_append_own _ rfl _ _ 110 rfl w.heap.size 2 j0 (.int .i64 0) 1 8 Tryz.underlying110 hj hy0 hy1 hy2 rfl (by decide) _ _ _ rfl ((hown.alloc _).alloc _) ⟨_, 0, none⟩ 1 1 [.int .i64 1] rfl rfl (cell_one _ _ (by simp) _ _) (by simp [Value.oneCell']) (by unfold maxLen; omega) (by first | omega | (simp; omega)) (by first | omega | (simp; omega)) ?_); intro v' w3 hown' hgrow _; obtain ⟨g9, c9, rfl⟩ := ownsRow_succ hown'))
        have hB3 : Below w.heap.size w w3 := ((hbel.alloc hz _).alloc (by simp; omega) _).grown hgrow (by simp; omega) (fun b e => (own_lt hown e).1)
        refine ⟨⟨i + 1, by simp, by omega, ⟨_, _, rfl⟩, hid ?_, hid (HBS.out HB0.out), hB3⟩, by simp [intOf]; omega⟩
        rw [HSU.out, HTV.out]
        exact hown'
    · have hin : i = ns.length := by omega
      have HV := hid (tOk_all (fun j hj => HB.out j (by omega)))
      have HIN := hid hin
      clear hin
      go_wp2
      go_ret2
      exact ⟨⟨_, by rw [HV.out]; rfl, fun _ => by rw [← HIN.out]; exact HO.out⟩, hbel⟩
end Ex
end Go.Proofs.YtccklgopcjilcaaGreatDoor
