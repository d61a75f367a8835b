/- The program's terms: termAt, partAhead. -/
import Derived.Test.YtnbmpofmieagfaaGreatDoorJFnProcs17
import Derived.Test.YtnbmpofmieagfaaGreatDoorJFnProcs20
namespace Go.Proofs.YtnbmpofmieagfaaGreatDoor
open Go.RowKit
set_option linter.unusedVariables false
namespace Ex
open Nd (NodeD)
/-- A term as the program's interface value. -/
def Tm.val : Tm → Value
  | ⟨[], false, n⟩ => .iface 157 (.int .i64 n)
  | ⟨[], true, n⟩ => .iface 158 (.int .i64 n)
  | ⟨[t], _, _⟩ => .iface 160 (.agg #[t.val])
  | ⟨l :: r :: _, _, k⟩ => .iface 162 (.agg #[.int .i64 k, l.val, r.val])
theorem Tm.val_if : ∀ (t : Tm), ∃ ty v, t.val = .iface ty v
  | ⟨[], false, n⟩ => ⟨_, _, rfl⟩
  | ⟨[], true, n⟩ => ⟨_, _, rfl⟩
  | ⟨[t], _, _⟩ => ⟨_, _, rfl⟩
  | ⟨l :: r :: _, _, k⟩ => ⟨_, _, rfl⟩
def isIf (x : Value) : Prop := x = .nilIface ∨ ∃ t v, x = .iface t v
def okTerm (o : Option (Tm × Nat)) (e : Ending) : Prop := match o with
  | some p => e = .returned (.tuple #[p.1.val, .int .i64 (p.2 : Int), .bool true])
  | none => ∃ x y, isIf x ∧ e = .returned (.tuple #[x, .int .i64 y, .bool false])
theorem mkConst (x : Value) (w : World) : (Instr.makeInterface 157 x).run Tryz.prog w = .ok (.iface 157 x) w := by kernel_rfl
theorem mkVar (x : Value) (w : World) : (Instr.makeInterface 158 x).run Tryz.prog w = .ok (.iface 158 x) w := by kernel_rfl
theorem mkNot (x : Value) (w : World) : (Instr.makeInterface 160 x).run Tryz.prog w = .ok (.iface 160 x) w := by kernel_rfl
theorem mkPair (x : Value) (w : World) : (Instr.makeInterface 162 x).run Tryz.prog w = .ok (.iface 162 x) w := by kernel_rfl
/-- partAhead, where termAt is known at the place. -/
theorem implPartNo (v : Value) (x y : Int) (w : World) (hy : -1000 ≤ y) (hy2 : y ≤ 1000) (hne : ¬ x = y - 1) :
    Calls Tryz.prog 110 #[v, .int .i64 x, .int .i64 y] w fun e w' => (∃ x y, isIf x ∧ e = .returned (.tuple #[x, .int .i64 y, .bool false])) ∧ w' = w := by
  have b1 : (x != y - 1) = true := by simpa using hne
  clear hne
  go_enter Tryz.func110, Tryz.ntmps110
  go_wp2
  go_ret3
  exact ⟨⟨_, _, .inl rfl, rfl⟩, rfl⟩
theorem implPartYes (o : Option (Tm × Nat)) (v : Value) (x y : Int) (B : Nat) (w : World) (hy : -1000 ≤ y) (hy2 : y ≤ 1000) (he : x = y - 1)
    (H : Calls Tryz.prog 101 #[v, .int .i64 x] w fun e w' => okTerm o e ∧ Below w.heap.size w w') :
    Calls Tryz.prog 110 #[v, .int .i64 x, .int .i64 y] w fun e w' => okTerm o e ∧ Below w.heap.size w w' := by
  have b1 : (x != y - 1) = false := by simpa using he
  have HT := hid H
  clear he H
  go_enter Tryz.func110, Tryz.ntmps110
  go_wp2_with fail
  refine HT.out.mono ?_
  rintro e w1 ⟨h1, hb1⟩
  cases o with
  | none =>
    obtain ⟨x1, y1, hx, rfl⟩ := h1
    go_wp2
    go_ret3
    exact ⟨⟨_, _, hx, rfl⟩, hb1⟩
  | some p =>
    unfold okTerm at h1
    simp only at h1
    subst h1
    go_wp2
    go_ret3
    exact ⟨rfl, hb1⟩
set_option maxRecDepth 100000 in
set_option maxHeartbeats 8000000 in
theorem implTerm (ns : List NodeD) (v : Value) (B0 : Nat) (hok : ∀ k, k < ns.length → nCode (NJ ns k) k = 0) (hns : ns.length ≤ 16) : ∀ (f k : Nat) (w : World), k < ns.length → k < f → Nd.At w B0 v ns →
    Calls Tryz.prog 101 #[v, .int .i64 (k : Int)] w fun e w' => okTerm (termF ns f k) e ∧ Below w.heap.size w w'
  | 0, k, w, hk, hf, ha => by omega
  | f + 1, k, w, hk, hf, ha => by
    have IH := hid (fun c w h1 h2 h3 => implTerm ns v B0 hok hns f c w h1 h2 h3)
    obtain ⟨a, cap, rfl⟩ := ha.slice
    have HA := hid ha
    have hnk := hok k hk
    have HOK := hid hok
    have HNJ := hid (NJ_eq hk)
    obtain ⟨g, o, rfl, hg, c0, c1, c2, c3⟩ := ha.at hk
    have q0 : (k : Int) < (ns.length : Int) := by omega
    have hb0 : Below w.heap.size w (w.alloc (.cells #[.int .i64 ns[k].kind, .int .i64 ns[k].value, .int .i64 ns[k].left, .int .i64 ns[k].right] 110)) := (Below.refl _ w).alloc (Nat.le_refl _) _
    have m1 := mkConst
    have m2 := mkVar
    have m3 := mkNot
    have m4 := mkPair
    clear ha hok
    have hb1 : Below w.heap.size w (w.alloc (.cells #[.int .i64 ns[k].kind, .int .i64 ns[k].value, .int .i64 ns[k].left, .int .i64 ns[k].right] 110)) := (Below.refl _ w).alloc (Nat.le_refl _) _
    rcases kinds hnk with e | e | e | ⟨e1, e2, e3⟩
    · have HV := hid (t_const (f := f) e)
      rw [HNJ.out] at e
      rw [e] at c0 hb0
      rw [HNJ.out] at HV
      clear hnk e hb1
      go_enter Tryz.func101, Tryz.ntmps101
      go_wp2
      go_ret3
      exact ⟨by rw [HV.out]; rfl, hb0⟩
    · have HV := hid (t_var (f := f) e)
      rw [HNJ.out] at e
      rw [e] at c0 hb0
      rw [HNJ.out] at HV
      clear hnk e hb1
      go_enter Tryz.func101, Tryz.ntmps101
      go_wp2
      go_ret3
      exact ⟨by rw [HV.out]; rfl, hb0⟩
    · have hnl := n_left hnk (by omega)
      have HN1 := hid (t_not (f := f) e)
      have HN2 := hid (t_not_none (f := f) e)
      rw [HNJ.out] at e hnl HN1 HN2
      rw [e] at c0 hb0
      have hA1 := HA.out.below hb0
      by_cases hl : ns[k].left = (k : Int) - 1
      · have HV := hid (HN1.out hl)
        have hcast : ns[k].left = ((k - 1 : Nat) : Int) := by omega
        have HT := hid (IH.out (k - 1) _ (by omega) (by omega) hA1)
        rw [← hcast] at HT
        have HP := hid (implPartYes (termF ns f (k - 1)) _ ns[k].left k 0 _ (by omega) (by omega) hl HT.out)
        clear hnk e hb1 hA1 hl hcast HT HN1 HN2 hnl
        go_enter Tryz.func101, Tryz.ntmps101
        go_wp2_with fail
        refine HP.out.mono ?_
        rintro e w1 ⟨h1, hb2⟩
        have B2 := hb0.trans (hb2.mono (by simp))
        cases ho : termF ns f (k - 1) with
        | none =>
          rw [ho] at h1 HV
          obtain ⟨x1, y1, hx, rfl⟩ := h1
          rcases hx with rfl | ⟨tx, vx, rfl⟩
          · go_wp2
            go_ret3
            exact ⟨by rw [HV.out]; first | exact ⟨_, _, .inr ⟨_, _, rfl⟩, rfl⟩ | exact ⟨_, _, .inl rfl, rfl⟩, B2⟩
          · go_wp2
            go_ret3
            exact ⟨by rw [HV.out]; first | exact ⟨_, _, .inr ⟨_, _, rfl⟩, rfl⟩ | exact ⟨_, _, .inl rfl, rfl⟩, B2⟩
        | some p =>
          rw [ho] at h1 HV
          unfold okTerm at h1
          simp only at h1
          obtain ⟨ty1, v1, hv1⟩ := p.1.val_if
          rw [hv1] at h1
          subst h1
          have HV1 := hid hv1
          clear hv1
          go_wp2
          go_ret3
          exact ⟨by rw [HV.out]; rw [← HV1.out]; rfl, B2⟩
      · have HV := hid (HN2.out hl)
        have HP := hid (implPartNo (.slice (some ⟨g, o, none⟩) ns.length cap) ns[k].left k (w.alloc (.cells #[.int .i64 10, .int .i64 ns[k].value, .int .i64 ns[k].left, .int .i64 ns[k].right] 110)) (by omega) (by omega) hl)
        clear hnk e hb1 hA1 hl HN1 HN2 hnl
        go_enter Tryz.func101, Tryz.ntmps101
        go_wp2_with fail
        refine HP.out.mono ?_
        rintro e w1 ⟨⟨x1, y1, hx, rfl⟩, rfl⟩
        rcases hx with rfl | ⟨tx, vx, rfl⟩
        · go_wp2
          go_ret3
          exact ⟨by rw [HV.out]; first | exact ⟨_, _, .inr ⟨_, _, rfl⟩, rfl⟩ | exact ⟨_, _, .inl rfl, rfl⟩, hb0⟩
        · go_wp2
          go_ret3
          exact ⟨by rw [HV.out]; first | exact ⟨_, _, .inr ⟨_, _, rfl⟩, rfl⟩ | exact ⟨_, _, .inl rfl, rfl⟩, hb0⟩
    · have hnl := n_left hnk (by omega)
      have hnr := n_right hnk e1
      have HN1 := hid (t_pair (f := f) ⟨e2, e3⟩)
      have HN2 := hid (t_pair_none (f := f) ⟨e2, e3⟩)
      rw [HNJ.out] at e1 e2 e3 hnl hnr HN1 HN2
      have hA1 := HA.out.below hb0
      have d1 : (ns[k].kind == 1) = false := beq_eq_false_iff_ne.2 (by omega)
      have d2 : (ns[k].kind == 2) = false := beq_eq_false_iff_ne.2 (by omega)
      have d3 : (ns[k].kind == 10) = false := beq_eq_false_iff_ne.2 (by omega)
      by_cases hr : ns[k].right = (k : Int) - 1
      · have HV := hid (HN1.out hr)
        have hcast : ns[k].right = ((k - 1 : Nat) : Int) := by omega
        have HT := hid (IH.out (k - 1) _ (by omega) (by omega) hA1)
        rw [← hcast] at HT
        have HP := hid (implPartYes (termF ns f (k - 1)) _ ns[k].right k 0 _ (by omega) (by omega) hr HT.out)
        have HNL := hid hnl
        have HLE : Hid (∀ t b, termF ns f (k - 1) = some (t, b) → b ≤ k - 1) := hid (fun t b h => (term_ok HOK.out f (k - 1) t b (by omega) (by omega) h).1)
        have h1k : 1 ≤ k := by omega
        clear hnk hb1 hA1 hr hcast HT HN1 HN2 hnl hnr e1 e2 e3
        go_enter Tryz.func101, Tryz.ntmps101
        go_wp2_with fail
        refine HP.out.mono ?_
        rintro e w1 ⟨h1, hb2⟩
        have B2 := hb0.trans (hb2.mono (by simp))
        have r0 := kept_cell hb2 (b := w.heap.size) (o := 0) (v := .int .i64 ns[k].kind) (by simp) (by go_simp)
        have r2 := kept_cell hb2 (b := w.heap.size) (o := 2) (v := .int .i64 ns[k].left) (by simp) (by go_simp)
        cases ho : termF ns f (k - 1) with
        | none =>
          rw [ho] at h1 HV
          obtain ⟨x1, y1, hx, rfl⟩ := h1
          rcases hx with rfl | ⟨tx, vx, rfl⟩
          · go_wp2
            go_ret3
            exact ⟨by rw [HV.out]; first | exact ⟨_, _, .inr ⟨_, _, rfl⟩, rfl⟩ | exact ⟨_, _, .inl rfl, rfl⟩, B2⟩
          · go_wp2
            go_ret3
            exact ⟨by rw [HV.out]; first | exact ⟨_, _, .inr ⟨_, _, rfl⟩, rfl⟩ | exact ⟨_, _, .inl rfl, rfl⟩, B2⟩
        | some p =>
          obtain ⟨t1, b1⟩ := p
          have hb1k := HLE.out t1 b1 ho
          rw [ho] at h1 HV
          unfold okTerm at h1
          simp only at h1
          obtain ⟨ty1, v1, hv1⟩ := t1.val_if
          rw [hv1] at h1
          subst h1
          have HV1 := hid hv1
          clear hv1
          simp only [Option.bind_some] at HV
          have hA2 := HA.out.below B2
          by_cases hl : ns[k].left = (b1 : Int) - 1
          · rw [if_pos hl] at HV
            have hnl := HNL.out
            have hcast : ns[k].left = ((b1 - 1 : Nat) : Int) := by omega
            have HT := hid (IH.out (b1 - 1) w1 (by omega) (by omega) hA2)
            rw [← hcast] at HT
            have HP2 := hid (implPartYes (termF ns f (b1 - 1)) _ ns[k].left b1 0 w1 (by omega) (by omega) hl HT.out)
            have hs1 : w.heap.size < w1.heap.size := by have := hb2.size; simp at this; omega
            clear hA2 hl hcast HT hnl HP
            go_wp2_with fail
            refine HP2.out.mono ?_
            rintro e w2 ⟨h2, hb3⟩
            have B3 := B2.trans (hb3.mono B2.size)
            have u0 := kept_cell hb3 hs1 r0
            cases ho2 : termF ns f (b1 - 1) with
            | none =>
              rw [ho2] at h2 HV
              obtain ⟨x1, y1, hx, rfl⟩ := h2
              rcases hx with rfl | ⟨tx, vx, rfl⟩
              · go_wp2
                go_ret3
                exact ⟨by rw [HV.out]; exact ⟨_, _, .inr ⟨_, _, rfl⟩, rfl⟩, B3⟩
              · go_wp2
                go_ret3
                exact ⟨by rw [HV.out]; exact ⟨_, _, .inr ⟨_, _, rfl⟩, rfl⟩, B3⟩
            | some p2 =>
              rw [ho2] at h2 HV
              unfold okTerm at h2
              simp only at h2
              obtain ⟨ty2, v2, hv2⟩ := p2.1.val_if
              rw [hv2] at h2
              subst h2
              have HV2 := hid hv2
              clear hv2
              go_wp2
              go_ret3
              exact ⟨by rw [HV.out]; rw [← HV1.out, ← HV2.out]; rfl, B3⟩
          · rw [if_neg hl] at HV
            have HP2 := hid (implPartNo (.slice (some ⟨g, o, none⟩) ns.length cap) ns[k].left b1 w1 (by omega) (by omega) hl)
            have hs1 : w.heap.size < w1.heap.size := by have := hb2.size; simp at this; omega
            clear hA2 hl HP
            go_wp2_with fail
            refine HP2.out.mono ?_
            rintro e w2 ⟨⟨x1, y1, hx, rfl⟩, rfl⟩
            rcases hx with rfl | ⟨tx, vx, rfl⟩
            · go_wp2
              go_ret3
              exact ⟨by rw [HV.out]; exact ⟨_, _, .inr ⟨_, _, rfl⟩, rfl⟩, B2⟩
            · go_wp2
              go_ret3
              exact ⟨by rw [HV.out]; exact ⟨_, _, .inr ⟨_, _, rfl⟩, rfl⟩, B2⟩
      · have HV := hid (HN2.out hr)
        have HP := hid (implPartNo (.slice (some ⟨g, o, none⟩) ns.length cap) ns[k].right k (w.alloc (.cells #[.int .i64 ns[k].kind, .int .i64 ns[k].value, .int .i64 ns[k].left, .int .i64 ns[k].right] 110)) (by omega) (by omega) hr)
        clear hnk hb1 hA1 hr HN1 HN2 hnl hnr e1 e2 e3
        go_enter Tryz.func101, Tryz.ntmps101
        go_wp2_with fail
        refine HP.out.mono ?_
        rintro e w1 ⟨⟨x1, y1, hx, rfl⟩, rfl⟩
        rcases hx with rfl | ⟨tx, vx, rfl⟩
        · go_wp2
          go_ret3
          exact ⟨by rw [HV.out]; first | exact ⟨_, _, .inr ⟨_, _, rfl⟩, rfl⟩ | exact ⟨_, _, .inl rfl, rfl⟩, hb0⟩
        · go_wp2
          go_ret3
          exact ⟨by rw [HV.out]; first | exact ⟨_, _, .inr ⟨_, _, rfl⟩, rfl⟩ | exact ⟨_, _, .inl rfl, rfl⟩, hb0⟩
end Ex
end Go.Proofs.YtnbmpofmieagfaaGreatDoor
