/- The program's exprTerm and ExprFault. -/
import Derived.Test.YtbojdlkibffcjaaDoorImB
namespace Go.Proofs.YtbojdlkibffcjaaDoor
open Go.RowKit
set_option linter.unusedVariables false
namespace Ex
open Nd (NodeD)
/-- What exprTerm answers. -/
def okTop (ns : List NodeD) (e : Ending) : Prop := (∃ t, eFault ns = 0 ∧ topF ns = some (t, 0) ∧ e = .returned (.tuple #[t.val, .int .i64 0])) ∨ (eFault ns ≠ 0 ∧ e = .returned (.tuple #[.nilIface, .int .i64 (eFault ns)]))
theorem n_form {n : NodeD} {i : Int} (h : form n = false) : nCode n i = 1 := by rw [n_code_eq, if_pos h]
theorem n_inside {n : NodeD} {i : Int} (h : form n = true) (h2 : inside n i = false) : nCode n i = 3 := by rw [n_code_eq, if_neg (by simp [h]), if_pos h2]
theorem n_good {n : NodeD} {i : Int} (h : form n = true) (h2 : inside n i = true) : nCode n i = 0 := by rw [n_code_eq, if_neg (by simp [h]), if_neg (by simp [h2])]
theorem bad_top {ns : List NodeD} {c : Int} (h : eFault ns = c) (hc : c ≠ 0) {e : Ending} (he : e = .returned (.tuple #[.nilIface, .int .i64 c])) : okTop ns e := .inr ⟨by rw [h]; exact hc, by rw [h]; exact he⟩
set_option maxRecDepth 100000 in
set_option maxHeartbeats 8000000 in
theorem implTop (B : Nat) (ns : List NodeD) (v : Value) (w : World) (hl : ns.length ≤ 1048576) (ha : Nd.At w B v ns) :
    Calls Tryd.prog 65 #[v] w fun e w' => okTop ns e ∧ Below w.heap.size w w' := by
  obtain ⟨a, cap, rfl⟩ := ha.slice
  have HA := hid ha
  clear ha
  by_cases z1 : ns.length < 1
  · have HV := hid (e_many (.inl z1))
    have q : (ns.length : Int) < 1 := by omega
    go_enter Tryd.func65, Tryd.ntmps65
    go_wp2
    go_ret2
    exact ⟨bad_top HV.out (by decide) rfl, Below.refl _ _⟩
  by_cases z2 : 16 < ns.length
  · have HV := hid (e_many (.inr z2))
    have q : ¬ (ns.length : Int) < 1 := by omega
    have q' : (16 : Int) < (ns.length : Int) := by omega
    go_enter Tryd.func65, Tryd.ntmps65
    go_wp2
    go_ret2
    exact ⟨bad_top HV.out (by decide) rfl, Below.refl _ _⟩
  have HZ : Hid (¬ (ns.length < 1 ∨ 16 < ns.length)) := hid (by omega)
  have q : ¬ (ns.length : Int) < 1 := by omega
  have q' : ¬ (16 : Int) < (ns.length : Int) := by omega
  go_enter Tryd.func65, Tryd.ntmps65
  go_wp2
  go_loopw [4, 5, 19] (fun _ _ x wr => ∃ (i : Nat), x = .int .i64 i ∧ i ≤ ns.length ∧ Hid (eCodeTo ns i = 0) ∧ Hid (Below w.heap.size w wr)) (fun _ _ x _ => ns.length - (intOf x).toNat)
  case atStart => exact ⟨0, rfl, Nat.zero_le _, hid rfl, hid (Below.refl _ _)⟩
  case round =>
    obtain ⟨i, rfl, hi, HC, HBR⟩ := hrel
    by_cases hlt : i < ns.length
    · obtain ⟨g, o, rfl, hg, c0, c1, c2, c3⟩ := (HA.out.below HBR.out).at hlt
      have q1 : (i : Int) < (ns.length : Int) := by omega
      have HB1 : Hid (Below w.heap.size w (wr.alloc (.cells #[.int .i64 ns[i].kind, .int .i64 ns[i].value, .int .i64 ns[i].left, .int .i64 ns[i].right] 76))) := hid (HBR.out.alloc HBR.out.size _)
      have HN := hid (implForm ns[i] (wr.alloc (.cells #[.int .i64 ns[i].kind, .int .i64 ns[i].value, .int .i64 ns[i].left, .int .i64 ns[i].right] 76)))
      have HC2 := hid (fun (h : nCode ns[i] i = 0) => code_next hlt HC.out h)
      have HV := hid (fun (h : nCode ns[i] i ≠ 0) => e_node HZ.out hlt HC.out h)
      have HN2 := hid (fun (w : World) (h : form ns[i] = true) => implInside ns[i] i w h)
      have HF1 := hid (n_form (n := ns[i]) (i := i))
      have HF2 := hid (n_inside (n := ns[i]) (i := i))
      have HF3 := hid (n_good (n := ns[i]) (i := i))
      generalize ns[i] = nd at *
      have r0 : (wr.alloc (.cells #[.int .i64 nd.kind, .int .i64 nd.value, .int .i64 nd.left, .int .i64 nd.right] 76)).heap.size = wr.heap.size + 1 := by simp
      go_wp2_with fail
      refine HN.out.mono ?_
      rintro e w1 ⟨rfl, hb1⟩
      have hs1 : wr.heap.size < w1.heap.size := by have := hb1.size; omega
      have u0 := kept_cell hb1 (b := wr.heap.size) (o := 0) (v := .int .i64 nd.kind) (by omega) (by go_simp)
      have u1 := kept_cell hb1 (b := wr.heap.size) (o := 1) (v := .int .i64 nd.value) (by omega) (by go_simp)
      have u2 := kept_cell hb1 (b := wr.heap.size) (o := 2) (v := .int .i64 nd.left) (by omega) (by go_simp)
      have u3 := kept_cell hb1 (b := wr.heap.size) (o := 3) (v := .int .i64 nd.right) (by omega) (by go_simp)
      have HB2 : Hid (Below w.heap.size w w1) := hid (HB1.out.trans (hb1.mono HB1.out.size))
      cases hf : form nd
      · have HV2 := hid (HF1.out hf)
        clear hf HN
        go_wp2
        go_ret2
        exact ⟨bad_top ((HV.out (by rw [HV2.out]; decide)).trans HV2.out) (by decide) rfl, HB2.out⟩
      · have HN3 := hid (HN2.out w1 hf)
        have HF2' := hid (HF2.out hf)
        have HF3' := hid (HF3.out hf)
        clear hf HN HN2
        go_wp2_with fail
        refine HN3.out.mono ?_
        rintro e w2 ⟨rfl, hb2⟩
        have HB3 : Hid (Below w.heap.size w w2) := hid (HB2.out.trans (hb2.mono HB2.out.size))
        cases hi2 : inside nd i
        · have HV2 := hid (HF2'.out hi2)
          clear hi2 HN3
          go_wp2
          go_ret2
          exact ⟨bad_top ((HV.out (by rw [HV2.out]; decide)).trans HV2.out) (by decide) rfl, HB3.out⟩
        · have HV2 := hid (HC2.out (HF3'.out hi2))
          clear hi2 HN3
          go_wp2
          exact ⟨⟨i + 1, by simp, by omega, HV2, HB3⟩, by simp [intOf]; omega⟩
    · have hin : i = ns.length := by omega
      rw [hin] at HC
      clear hin
      have HT := hid (implTerm ns _ B (code_all HC.out) (by omega) ns.length (ns.length - 1) wr (by omega) (by omega) (HA.out.below HBR.out))
      have hcast : (((ns.length - 1 : Nat) : Nat) : Int) = (ns.length : Int) - 1 := by omega
      rw [hcast] at HT
      have HOF := hid (e_no_top HZ.out HC.out)
      have HOK : Hid (∀ t, topF ns = some (t, 0) → eFault ns = 0) := hid (fun t h => e_of_top HZ.out HC.out h)
      clear hcast
      go_wp2_with fail
      refine HT.out.mono ?_
      rintro e w1 ⟨h1, hb1⟩
      have HB1 : Hid (Below w.heap.size w w1) := hid (HBR.out.trans (hb1.mono HBR.out.size))
      change okTerm (topF ns) e at h1
      cases ho : topF ns with
      | none =>
        rw [ho] at h1
        obtain ⟨x1, y1, hx, rfl⟩ := h1
        have HV := hid (HOF.out (fun t e => by rw [ho] at e; cases e))
        clear ho HT
        rcases hx with rfl | ⟨tx, vx, rfl⟩
        · go_wp2
          go_ret2
          exact ⟨bad_top HV.out (by decide) rfl, HB1.out⟩
        · go_wp2
          go_ret2
          exact ⟨bad_top HV.out (by decide) rfl, HB1.out⟩
      | some p =>
        obtain ⟨t, b⟩ := p
        have HO := hid ho
        rw [ho] at h1
        unfold okTerm at h1
        simp only at h1
        obtain ⟨ty1, v1, hv1⟩ := t.val_if
        rw [hv1] at h1
        subst h1
        have HV1 := hid hv1
        clear hv1 HT ho
        by_cases hb : b = 0
        · have b1 : ((b : Int) != 0) = false := by simp [hb]
          have HBZ := hid hb
          clear hb
          go_wp2
          go_ret2
          refine ⟨.inl ⟨t, HOK.out t (by rw [HO.out, HBZ.out]), by rw [HO.out, HBZ.out], by rw [HV1.out]; rfl⟩, HB1.out⟩
        · have b1 : ((b : Int) != 0) = true := by simp; omega
          have HV := hid (HOF.out (fun t' e => by rw [HO.out] at e; cases e; exact hb rfl))
          clear hb
          go_wp2
          go_ret2
          exact ⟨bad_top HV.out (by decide) rfl, HB1.out⟩
set_option maxRecDepth 100000 in
set_option maxHeartbeats 400000 in
theorem implExprFault (B : Nat) (ns : List NodeD) (v : Value) (w : World) (hl : ns.length ≤ 1048576) (ha : Nd.At w B v ns) :
    Calls Tryd.prog 55 #[v] w fun e w' => e = .returned (.int .i64 (eFault ns)) ∧ Below w.heap.size w w' := by
  have HC := hid (implTop B ns v w hl ha)
  obtain ⟨a, cap, rfl⟩ := ha.slice
  clear ha
  go_enter Tryd.func55, Tryd.ntmps55
  go_wp2_with fail
  refine HC.out.mono ?_
  rintro e w1 ⟨h1, hb1⟩
  rcases h1 with ⟨t, h0, h1, rfl⟩ | ⟨h0, rfl⟩
  · obtain ⟨ty1, v1, hv1⟩ := t.val_if
    have HZ := hid h0
    rw [hv1]
    clear hv1 h0 h1
    go_wp2
    go_ret
    exact ⟨by rw [HZ.out]; rfl, hb1⟩
  · go_wp2
    go_ret
    exact ⟨rfl, hb1⟩
end Ex
end Go.Proofs.YtbojdlkibffcjaaDoor
