/- Laid together: ExC, ExD, ExE, ExF, ExG, ExH. -/
import Derived.Test.YtgghigfflpbjiaaGreatDoorGD
import Derived.Maps.AppendAt
import Derived.Laws.OwnMore
import Derived.RangeFuncBox
/- The specification's walk over an expression, and ExprFault. -/
namespace Go.Proofs.YtgghigfflpbjiaaGreatDoor
open Go.RowKit
set_option linter.unusedVariables false
namespace Ex
open Nd (NodeD)
theorem infoI64 : (Tryz.prog.info? 2).map (fun i => (i.zero, i.size, i.bytes)) = some (some (.int .i64 0), 1, 8) := by kernel_rfl
theorem info_parts {P : Program} {e : TypeId} {z : Value} {sz bytes : Nat} (h : (P.info? e).map (fun i => (i.zero, i.size, i.bytes)) = some (some z, sz, bytes)) : ∃ i, P.info? e = some i ∧ i.zero = some z ∧ i.size = sz ∧ i.bytes = bytes := by
  cases hi : P.info? e with
  | none => rw [hi] at h; cases h
  | some i =>
    rw [hi] at h
    simp only [Option.map_some, Option.some.injEq, Prod.mk.injEq] at h
    exact ⟨i, rfl, h.1, h.2.1, h.2.2⟩
def idVals (l : List Nat) : List Value := l.map fun (i : Nat) => .int .i64 (i : Int)
theorem owns_slice {w : World} {base n : Nat} {e : TypeId} {v : Value} {xs : List Value} (h : w.ownsRow base e 1 v n xs) : ∃ a cap, v = .slice a n cap := by
  obtain ⟨hl, ⟨rfl, rfl⟩ | ⟨g', cap', cur, hv, _⟩⟩ := h
  · exact ⟨_, _, rfl⟩
  · exact ⟨_, _, hv⟩
theorem own_lt {w : World} {B : Nat} {e : TypeId} {size n b : Nat} {v : Value} {xs : List Value} (h : w.ownsRow B e size v n xs) (hb : v.ownBlock = some b) : B ≤ b ∧ b < w.heap.size := by
  rcases h.2 with ⟨rfl, _⟩ | ⟨g, cap, cur, rfl, hbg, hg, _⟩
  · simp [Value.ownBlock] at hb
  · obtain rfl : g = b := by simpa [Value.ownBlock] using hb
    exact ⟨hbg, (Array.getElem?_eq_some_iff.1 hg).1⟩
theorem walk_long {ns : List NodeD} {f k : Nat} {out : List Nat} (h : 16 < out.length) : walkF ns (f + 1) k out = out := by rw [walkF, if_pos h]
theorem walk_leaf {ns : List NodeD} {f k : Nat} {out : List Nat} (h : ¬ 16 < out.length) (h1 : ¬ 2 < (NJ ns k).kind) (h2 : two (NJ ns k).kind = false) : walkF ns (f + 1) k out = out ++ [k] := by rw [walkF, if_neg h, if_neg (by simp [h2]), if_neg h1]
theorem walk_one {ns : List NodeD} {f k l : Nat} {out : List Nat} (h : ¬ 16 < out.length) (h1 : 2 < (NJ ns k).kind) (h2 : two (NJ ns k).kind = false) (hl : (NJ ns k).left = (l : Int)) : walkF ns (f + 1) k out = walkF ns f l out ++ [k] := by rw [walkF, if_neg h, if_neg (by simp [h2]), if_pos h1, hl, Int.toNat_natCast]
theorem walk_two {ns : List NodeD} {f k l r : Nat} {out : List Nat} (h : ¬ 16 < out.length) (h1 : 2 < (NJ ns k).kind) (h2 : two (NJ ns k).kind = true) (hl : (NJ ns k).left = (l : Int)) (hr : (NJ ns k).right = (r : Int)) : walkF ns (f + 1) k out = walkF ns f r (walkF ns f l out) ++ [k] := by rw [walkF, if_neg h, if_pos h2, if_pos h1, hl, hr, Int.toNat_natCast, Int.toNat_natCast]
set_option maxRecDepth 100000 in
set_option maxHeartbeats 4000000 in
theorem specWalk (ns : List NodeD) (v : Value) (W0 : World) (B0 : Nat) (hA : Nd.At W0 B0 v ns) (hok : ∀ k, k < ns.length → nCode (NJ ns k) k = 0) (hns : ns.length ≤ 16) : ∀ (f k : Nat) (out : List Nat) (u : Value) (w : World), k < ns.length → k < f → f ≤ 16 → out.length + 32 * f ≤ 10000 → Below W0.heap.size W0 w → w.ownsRow W0.heap.size 2 1 u out.length (idVals out) →
    Calls Tryz.prog 92 #[v, .int .i64 (k : Int), u] w fun e w' => (∃ u', e = .returned u' ∧ w'.ownsRow W0.heap.size 2 1 u' (walkF ns f k out).length (idVals (walkF ns f k out))) ∧ Below W0.heap.size w w'
  | 0, k, out, u, w, hk, hf, _, _, _, _ => by omega
  | f + 1, k, out, u, w, hk, hf, hf16, hlen, hbw, hown => by
    have HIH := hid (fun c out u w (h1 : c < ns.length) (h2 : c < f) (h3 : out.length + 32 * f ≤ 10000) (h4 : Below W0.heap.size W0 w) (h5 : w.ownsRow W0.heap.size 2 1 u out.length (idVals out)) => specWalk ns v W0 B0 hA hok hns f c out u w h1 h2 (by omega) h3 h4 h5)
    obtain ⟨a, cap, rfl⟩ := hA.slice
    have HA := hid hA
    have hn := hok k hk
    have HNJ := hid (NJ_eq hk)
    rw [HNJ.out] at hn
    obtain ⟨x5, y5, rfl⟩ := owns_slice hown
    have HO := hid hown
    obtain ⟨g, o, rfl, hg, c0, c1, c2, c3⟩ := (hA.below hbw).at hk
    have q0 : (k : Int) < (ns.length : Int) := by omega
    have hz := hbw.size
    obtain ⟨j0, hj, hy0, hy1, hy2⟩ := info_parts infoI64
    have HT := hid (fun w' => specTwo ns[k].kind w')
    have hwl := walk_len ns f
    clear hA hown hok
    by_cases h16 : 16 < out.length
    · have HV := hid (walk_long (ns := ns) (f := f) (k := k) h16)
      have q16 : (16 : Int) < (out.length : Int) := by omega
      go_enter Tryz.func92, Tryz.ntmps92
      go_wp2
      go_ret
      exact ⟨⟨_, rfl, by rw [HV.out]; exact HO.out⟩, Below.refl _ _⟩
    · have q16 : ¬ (16 : Int) < (out.length : Int) := by omega
      by_cases hk2 : 2 < ns[k].kind
      · have hnl := n_left hn hk2
        obtain ⟨l, hl⟩ : ∃ l : Nat, ns[k].left = (l : Int) := ⟨ns[k].left.toNat, by omega⟩
        have h1w := hwl l out
        have HL := hid (HIH.out l out _ w (by omega) (by omega) (by omega) hbw HO.out)
        cases ht : two ns[k].kind
        · have HV := hid (walk_one (ns := ns) (f := f) (k := k) (l := l) h16 (by rw [HNJ.out]; exact hk2) (by rw [HNJ.out]; exact ht) (by rw [HNJ.out]; exact hl))
          rw [ht] at HT
          rw [hl] at c2
          clear hnl hl ht hn hwl
          generalize walkF ns f l out = o1 at *
          go_enter Tryz.func92, Tryz.ntmps92
          go_wp2_with fail
          refine HL.out.mono ?_
          rintro e w1 ⟨⟨u1, rfl, ho1⟩, hb1⟩
          obtain ⟨a1, d1, rfl⟩ := owns_slice ho1
          obtain ⟨g', o', e', hg', m0, m1, m2, m3⟩ := (HA.out.below (hbw.trans hb1)).at hk
          cases e'
          have hz1 := (hbw.trans hb1).size
          go_wp2_with (first
            | (go_at_call 111; refine (HT.out _).mono ?_; rintro e w2 ⟨rfl, rfl⟩)
            | (at_builtin; go_must (refine wpList_append_own _ rfl _ _ 108 rfl W0.heap.size 2 j0 (.int .i64 0) 1 8 Tryz.underlying108 hj hy0 hy1 hy2 rfl (by decide) _ _ _ rfl (ho1.alloc _) ⟨w2.heap.size, 0, none⟩ 1 1 [.int .i64 (k : Int)] rfl rfl (cell_one_new _ _ _) (by simp [Value.oneCell']) (by unfold maxLen; omega) (by omega) (by simp; omega) ?_); intro v' w3 hown' hgrow _; obtain ⟨g9, c9, rfl⟩ := ownsRow_succ hown'))
          go_ret
          have hB3 : Below W0.heap.size w w3 := (hb1.alloc (by omega) _).grown hgrow (by simp; omega) (fun b e => (own_lt ho1 e).1)
          refine ⟨⟨_, rfl, ?_⟩, hB3⟩
          rw [HV.out, List.length_append]
          simpa [idVals] using hown'
        · have hnr := n_right hn ht
          obtain ⟨r, hr⟩ : ∃ r : Nat, ns[k].right = (r : Int) := ⟨ns[k].right.toNat, by omega⟩
          have HV := hid (walk_two (ns := ns) (f := f) (k := k) (l := l) (r := r) h16 (by rw [HNJ.out]; exact hk2) (by rw [HNJ.out]; exact ht) (by rw [HNJ.out]; exact hl) (by rw [HNJ.out]; exact hr))
          have h2w := hwl r (walkF ns f l out)
          rw [ht] at HT
          rw [hl] at c2
          have hrk : r < k := by omega
          have HHR := hid hr
          clear hnl hl ht hn hwl hnr hr
          generalize walkF ns f l out = o1 at *
          have HR := hid (fun u w (h4 : Below W0.heap.size W0 w) (h5 : w.ownsRow W0.heap.size 2 1 u o1.length (idVals o1)) => HIH.out r o1 u w (by omega) (by omega) (by omega) h4 h5)
          generalize walkF ns f r o1 = o2 at *
          go_enter Tryz.func92, Tryz.ntmps92
          go_wp2_with fail
          refine HL.out.mono ?_
          rintro e w1 ⟨⟨u1, rfl, ho1⟩, hb1⟩
          obtain ⟨a1, d1, rfl⟩ := owns_slice ho1
          obtain ⟨g', o', e', hg', m0, m1, m2, m3⟩ := (HA.out.below (hbw.trans hb1)).at hk
          cases e'
          rw [HHR.out] at m3
          have HR1 := hid (HR.out _ w1 (hbw.trans hb1) ho1)
          clear HR ho1
          go_wp2_with (first
            | (go_at_call 111; refine (HT.out _).mono ?_; rintro e w2 ⟨rfl, rfl⟩)
            | (go_at_call 92; refine HR1.out.mono ?_; rintro e w2 ⟨⟨u2, rfl, ho2⟩, hb2⟩; obtain ⟨a2, d2, rfl⟩ := owns_slice ho2; have hz2 := ((hbw.trans hb1).trans hb2).size)
            | (at_builtin; go_must (refine wpList_append_own _ rfl _ _ 108 rfl W0.heap.size 2 j0 (.int .i64 0) 1 8 Tryz.underlying108 hj hy0 hy1 hy2 rfl (by decide) _ _ _ rfl (ho2.alloc _) ⟨w2.heap.size, 0, none⟩ 1 1 [.int .i64 (k : Int)] rfl rfl (cell_one_new _ _ _) (by simp [Value.oneCell']) (by unfold maxLen; omega) (by omega) (by simp; omega) ?_); intro v' w3 hown' hgrow _; obtain ⟨g9, c9, rfl⟩ := ownsRow_succ hown'))
          go_ret
          have hB3 : Below W0.heap.size w w3 := ((hb1.trans hb2).alloc (by omega) _).grown hgrow (by simp; omega) (fun b e => (own_lt ho2 e).1)
          refine ⟨⟨_, rfl, ?_⟩, hB3⟩
          rw [HV.out, List.length_append]
          simpa [idVals] using hown'
      · have ht : two ns[k].kind = false := inR_not.2 (by omega)
        have HV := hid (walk_leaf (ns := ns) (f := f) (k := k) h16 (by rw [HNJ.out]; exact hk2) (by rw [HNJ.out]; exact ht))
        rw [ht] at HT
        have hown := HO.out
        clear ht hn hwl
        go_enter Tryz.func92, Tryz.ntmps92
        go_wp2_with (first
            | (go_at_call 111; refine (HT.out _).mono ?_; rintro e w2 ⟨rfl, rfl⟩)
            | (at_builtin; go_must (refine wpList_append_own _ rfl _ _ 108 rfl W0.heap.size 2 j0 (.int .i64 0) 1 8 Tryz.underlying108 hj hy0 hy1 hy2 rfl (by decide) _ _ _ rfl (hown.alloc _) ⟨w2.heap.size, 0, none⟩ 1 1 [.int .i64 (k : Int)] rfl rfl (cell_one_new _ _ _) (by simp [Value.oneCell']) (by unfold maxLen; omega) (by omega) (by simp; omega) ?_); intro v' w3 hown' hgrow _; obtain ⟨g9, c9, rfl⟩ := ownsRow_succ hown'))
        go_ret
        have hB3 : Below W0.heap.size w2 w3 := ((Below.refl _ w2).alloc (by omega) _).grown hgrow (by simp; omega) (fun b e => (own_lt hown e).1)
        refine ⟨⟨_, rfl, ?_⟩, hB3⟩
        rw [HV.out, List.length_append]
        simpa [idVals] using hown'
end Ex
end Go.Proofs.YtgghigfflpbjiaaGreatDoor
/- The specification's ExprFault. -/
namespace Go.Proofs.YtgghigfflpbjiaaGreatDoor
open Go.RowKit
set_option linter.unusedVariables false
namespace Ex
open Nd (NodeD)
theorem owns_cell {w : World} {base g n cap i : Nat} {e : TypeId} {xs : List Value} (h : w.ownsRow base e 1 (.slice (some ⟨g, 0, none⟩) n cap) n xs) (hi : i < n) (hx : i < xs.length) : w.cell? ⟨g, i, none⟩ = some xs[i] := by
  obtain ⟨hl, ⟨e1, _⟩ | ⟨g', cap', cur, e1, hbg, hg, hle, hm, hs, ht⟩⟩ := h
  · cases e1
  · cases e1
    have : cur[i]? = some xs[i] := by
      have h2 := congrArg (·[i]?) ht
      simp only [Nat.mul_one, List.getElem?_take, hi, if_true, List.getElem?_eq_getElem hx] at h2
      simpa using h2
    simp [World.cell?, hg, this]
set_option maxRecDepth 100000 in
set_option maxHeartbeats 4000000 in
theorem specFault1 (B : Nat) (ns : List NodeD) (v : Value) (w : World) (hl : ns.length ≤ 1048576) (ha : Nd.At w B v ns) :
    Calls Tryz.prog 64 #[v] w fun e w' => e = .returned (.int .i64 (eFault ns)) ∧ Below w.heap.size w w' := by
  obtain ⟨a, cap, rfl⟩ := ha.slice
  have HA := hid ha
  clear ha
  by_cases z1 : ns.length < 1
  · have HV := hid (e_many (.inl z1))
    have q : (ns.length : Int) < 1 := by omega
    go_enter Tryz.func64, Tryz.ntmps64
    go_wp2
    go_ret
    exact ⟨by rw [HV.out]; rfl, Below.refl _ _⟩
  by_cases z2 : 16 < ns.length
  · have HV := hid (e_many (.inr z2))
    have q : ¬ (ns.length : Int) < 1 := by omega
    have q' : (16 : Int) < (ns.length : Int) := by omega
    go_enter Tryz.func64, Tryz.ntmps64
    go_wp2
    go_ret
    exact ⟨by rw [HV.out]; rfl, Below.refl _ _⟩
  have HZ : Hid (¬ (ns.length < 1 ∨ 16 < ns.length)) := hid (by omega)
  have q : ¬ (ns.length : Int) < 1 := by omega
  have q' : ¬ (16 : Int) < (ns.length : Int) := by omega
  go_enter Tryz.func64, Tryz.ntmps64
  go_wp2
  go_loopw [3, 4] (fun x _ wr => ∃ (i : Nat), x = .int .i64 i ∧ i ≤ ns.length ∧ Hid (eCodeTo ns i = 0) ∧ wr = w) (fun x _ _ => ns.length - (intOf x).toNat)
  case atStart => exact ⟨0, rfl, Nat.zero_le _, hid rfl, rfl⟩
  case round =>
    obtain ⟨i, rfl, hi, HC, rfl⟩ := hrel
    by_cases hlt : i < ns.length
    · obtain ⟨g, o, rfl, hg, c0, c1, c2, c3⟩ := HA.out.at hlt
      have q1 : (i : Int) < (ns.length : Int) := by omega
      have HN := hid (specNode ns[i] i g (o + i * 4) wr (by omega) (by omega) c0 c1 c2 c3)
      by_cases hc : nCode ns[i] i = 0
      · have HC2 := hid (code_next hlt HC.out hc)
        rw [hc] at HN
        clear hc
        go_wp2_with fail
        refine HN.out.mono ?_
        rintro e w1 ⟨rfl, rfl⟩
        go_wp2
        exact ⟨⟨i + 1, by simp, by omega, HC2, trivial⟩, by simp [intOf]; omega⟩
      · have HV := hid (e_node HZ.out hlt HC.out hc)
        have b1 : (nCode ns[i] i != 0) = true := by simpa using hc
        clear hc
        go_wp2_with fail
        refine HN.out.mono ?_
        rintro e w1 ⟨rfl, rfl⟩
        go_wp2
        go_ret
        exact ⟨by rw [HV.out]; rfl, Below.refl _ _⟩
    · have hin : i = ns.length := by omega
      rw [hin] at HC
      clear hin
      have HW := hid (specWalk ns _ wr B HA.out (fun k hk => code_all HC.out k hk) (by omega) ns.length (ns.length - 1) [] (.slice none 0 0) wr (by omega) (by omega) (by omega) (by simp only [List.length_nil]; omega) (Below.refl _ _) (World.ownsRow_nil wr _ _ 1))
      have hcast : (((ns.length - 1 : Nat) : Nat) : Int) = (ns.length : Int) - 1 := by omega
      rw [hcast] at HW
      have HOF := hid (e_form HZ.out HC.out)
      have HOK := hid (e_ok HZ.out HC.out)
      have hol := order_len (ns := ns) (by omega)
      unfold order at HOF HOK hol
      generalize walkF ns ns.length (ns.length - 1) [] = od at *
      go_wp2_with fail
      refine HW.out.mono ?_
      rintro e w1 ⟨⟨u, rfl, ho⟩, hb1⟩
      obtain ⟨a1, d1, rfl⟩ := owns_slice ho
      have HO := hid ho
      clear ho HW hcast
      by_cases hln : od.length = ns.length
      · have b1 : ((od.length : Int) != (ns.length : Int)) = false := by simp; omega
        have HLN := hid hln
        clear hln
        go_wp2
        go_loop [6] (fun x => ∃ (j : Nat), x = .int .i64 j ∧ j ≤ od.length ∧ Hid (∀ m (hm : m < od.length), m < j → od[m] = m)) (fun x => od.length - (intOf x).toNat)
        case atStart => exact ⟨0, rfl, Nat.zero_le _, hid (fun m _ h => by omega)⟩
        case round =>
          obtain ⟨j, rfl, hj, HJ⟩ := hrel
          by_cases hlj : j < od.length
          · have qj : (j : Int) < (od.length : Int) := by omega
            obtain ⟨g1, rfl⟩ : ∃ g1, a1 = some ⟨g1, 0, none⟩ := by
              obtain ⟨_, ⟨e1, e2⟩ | ⟨g', cap', cur, e1, _⟩⟩ := HO.out
              · omega
              · cases e1; exact ⟨g', rfl⟩
            have m0 := owns_cell HO.out hlj (by simp [idVals]; omega)
            simp only [idVals, List.getElem_map] at m0
            by_cases he : od[j] = j
            · have b2 : ((od[j] : Int) != (j : Int)) = false := by simp; omega
              have HJ2 : Hid (∀ m (hm : m < od.length), m < j + 1 → od[m] = m) := hid (fun m hm h => by
                by_cases e : m = j
                · subst e; exact he
                · exact HJ.out m hm (by omega))
              clear he
              go_wp2
              exact ⟨⟨j + 1, by simp, by omega, HJ2⟩, by simp [intOf]; omega⟩
            · have b2 : ((od[j] : Int) != (j : Int)) = true := by simp; omega
              have HV := hid (HOF.out (range_not hlj he))
              clear he
              go_wp2
              go_ret
              exact ⟨by rw [HV.out]; rfl, hb1⟩
          · have HV := hid (HOK.out (range_of HLN.out (fun m hm => HJ.out m hm (by omega))))
            go_wp2
            go_ret
            exact ⟨by rw [HV.out]; rfl, hb1⟩
      · have b1 : ((od.length : Int) != (ns.length : Int)) = true := by simp; omega
        have HV := hid (HOF.out (fun e => hln (by rw [e]; simp)))
        clear hln
        go_wp2
        go_ret
        exact ⟨by rw [HV.out]; rfl, hb1⟩
end Ex
end Go.Proofs.YtgghigfflpbjiaaGreatDoor
/- The specification's TypeOf. -/
namespace Go.Proofs.YtgghigfflpbjiaaGreatDoor
open Go.RowKit
set_option linter.unusedVariables false
namespace Ex
open Nd (NodeD)
def tyOf (k : Int) : Int := if 7 ≤ k then 2 else 1
def wantOf (k : Int) : Int := if k = 9 ∨ k = 10 then 2 else 1
def ty (ns : List NodeD) (j : Nat) : Int := tyOf (NJ ns j).kind
def badAt (ns : List NodeD) (i : Nat) : Bool := (decide (2 < (NJ ns i).kind) && (ty ns (NJ ns i).left.toNat != wantOf (NJ ns i).kind)) || (two (NJ ns i).kind && (ty ns (NJ ns i).right.toNat != wantOf (NJ ns i).kind))
def tOk (ns : List NodeD) : Bool := (List.range ns.length).all (fun j => !badAt ns j)
def typeCode (ns : List NodeD) : Int := if eFault ns ≠ 0 then eFault ns else if tOk ns = true then 0 else 7
def typeVal (ns : List NodeD) : Int := if typeCode ns = 0 then ty ns (ns.length - 1) else 0
theorem tOk_bad {ns : List NodeD} {i : Nat} (hi : i < ns.length) (h : badAt ns i = true) : tOk ns = false := by
  unfold tOk
  rw [List.all_eq_false]
  exact ⟨i, by simpa using hi, by simp [h]⟩
theorem tOk_all {ns : List NodeD} (h : ∀ j, j < ns.length → badAt ns j = false) : tOk ns = true := by
  unfold tOk
  rw [List.all_eq_true]
  intro j hj
  rw [h j (by simpa using hj)]
  rfl
theorem ty_fault {ns : List NodeD} (h : eFault ns ≠ 0) : typeCode ns = eFault ns ∧ typeVal ns = 0 := by
  have e : typeCode ns = eFault ns := by unfold typeCode; rw [if_pos h]
  exact ⟨e, by unfold typeVal; rw [if_neg (by rw [e]; exact h)]⟩
theorem ty_bad {ns : List NodeD} (h : eFault ns = 0) (h2 : tOk ns = false) : typeCode ns = 7 ∧ typeVal ns = 0 := by
  have e : typeCode ns = 7 := by unfold typeCode; rw [if_neg (by simp [h]), if_neg (by simp [h2])]
  exact ⟨e, by unfold typeVal; rw [if_neg (by rw [e]; decide)]⟩
theorem ty_ok {ns : List NodeD} (h : eFault ns = 0) (h2 : tOk ns = true) : typeCode ns = 0 ∧ typeVal ns = ty ns (ns.length - 1) := by
  have e : typeCode ns = 0 := by unfold typeCode; rw [if_neg (by simp [h]), if_pos h2]
  exact ⟨e, by unfold typeVal; rw [if_pos e]⟩
theorem of_e {ns : List NodeD} (h : eFault ns = 0) : 0 < ns.length ∧ ns.length ≤ 16 ∧ ∀ k, k < ns.length → nCode (NJ ns k) k = 0 := by
  by_cases z : ns.length < 1 ∨ 16 < ns.length
  · rw [e_many z] at h; omega
  · refine ⟨by omega, by omega, ?_⟩
    unfold eFault at h
    rw [if_neg z] at h
    by_cases h2 : eCodeTo ns ns.length ≠ 0
    · rw [if_pos h2] at h; exact absurd h h2
    · exact code_all (by simpa using h2)
/-- The types of the first nodes, as they lie in memory. -/
def tyVals (ns : List NodeD) (i : Nat) : List Value := (List.range i).map fun j => .int .i64 (ty ns j)
theorem tyVals_len (ns : List NodeD) (i : Nat) : (tyVals ns i).length = i := by simp [tyVals]
theorem tyVals_succ (ns : List NodeD) (i : Nat) : tyVals ns (i + 1) = tyVals ns i ++ [.int .i64 (ty ns i)] := by simp [tyVals, List.range_succ]
theorem ty_cell {w : World} {base g cap i j : Nat} {e : TypeId} {ns : List NodeD} (h : w.ownsRow base e 1 (.slice (some ⟨g, 0, none⟩) i cap) i (tyVals ns i)) (hj : j < i) : w.cell? ⟨g, j, none⟩ = some (.int .i64 (ty ns j)) := by
  have h1 := owns_cell h hj (by rw [tyVals_len]; exact hj)
  simpa [tyVals] using h1
theorem owns_some {w : World} {base n cap : Nat} {e : TypeId} {a : Option Addr} {xs : List Value} (h : w.ownsRow base e 1 (.slice a n cap) n xs) (hn : 0 < n) : ∃ g, a = some ⟨g, 0, none⟩ ∧ g < w.heap.size := by
  obtain ⟨_, ⟨e1, e2⟩ | ⟨g', cap', cur, e1, _, hg, _⟩⟩ := h
  · omega
  · cases e1; exact ⟨g', rfl, (Array.getElem?_eq_some_iff.1 hg).1⟩
theorem cell_one (w : World) (b : Nat) (hb : b = w.heap.size) (x : Value) (t : TypeId) : ∀ j u, [x][j]? = some u → (w.alloc (.cells #[x] t)).cell? ((⟨b, 0, none⟩ : Addr).add j) = some u := by
  subst hb
  exact cell_one_new w x t
set_option maxRecDepth 100000 in
set_option maxHeartbeats 8000000 in
theorem specTypes (B : Nat) (ns : List NodeD) (v : Value) (w : World) (hl : ns.length ≤ 16) (hok : ∀ k, k < ns.length → nCode (NJ ns k) k = 0) (ha : Nd.At w B v ns) :
    Calls Tryz.prog 93 #[v] w fun e w' => (∃ u, e = .returned (.tuple #[u, .bool (tOk ns)]) ∧ (tOk ns = true → w'.ownsRow w.heap.size 2 1 u ns.length (tyVals ns ns.length))) ∧ Below w.heap.size w w' := by
  obtain ⟨a, cap, rfl⟩ := ha.slice
  have HA := hid ha
  have HN := hid hok
  clear ha hok
  obtain ⟨j0, hj, hy0, hy1, hy2⟩ := info_parts infoI64
  go_enter Tryz.func93, Tryz.ntmps93
  go_wp2
  go_loopw [4, 5, 6, 7, 8] (fun t x _ _ _ wr => ∃ (i : Nat), x = .int .i64 i ∧ i ≤ ns.length ∧ (∃ a5 c5, t = .slice a5 i c5) ∧ Hid (wr.ownsRow w.heap.size 2 1 t i (tyVals ns i)) ∧ Hid (∀ j, j < i → badAt ns j = false) ∧ Below w.heap.size w wr) (fun _ x _ _ _ _ => ns.length - (intOf x).toNat)
  case atStart => exact ⟨0, rfl, Nat.zero_le _, ⟨_, _, rfl⟩, World.ownsRow_made w #[] 0 (Nat.le_refl _) (by unfold maxLen; omega) rfl, hid (fun j h => by omega), (Below.refl _ w).alloc (Nat.le_refl _) _⟩
  case round =>
    obtain ⟨i, rfl, hi, ⟨a5, c5, rfl⟩, HO, HB, hbel⟩ := hrel
    have hz := hbel.size
    by_cases hlt : i < ns.length
    · obtain ⟨g, o, rfl, hg, c0, c1, c2, c3⟩ := (HA.out.below hbel).at hlt
      have q1 : (i : Int) < (ns.length : Int) := by omega
      have hn := HN.out i hlt
      have HNJ := hid (NJ_eq hlt)
      rw [HNJ.out] at hn
      have HT := hid (fun w' => specTwo ns[i].kind w')
      have HBI : Hid (badAt ns i = ((decide (2 < ns[i].kind) && (ty ns ns[i].left.toNat != wantOf ns[i].kind)) || (two ns[i].kind && (ty ns ns[i].right.toNat != wantOf ns[i].kind)))) := hid (by unfold badAt; rw [HNJ.out])
      have HTI : Hid (ty ns i = tyOf ns[i].kind) := hid (by unfold ty; rw [HNJ.out])
      have hkd := inR_iff.1 (of_n hn).1
      have hown := HO.out
      have HBS : Hid (badAt ns i = false → ∀ j, j < i + 1 → badAt ns j = false) := hid (fun h j hj => by
        by_cases e : j = i
        · rw [e]; exact h
        · exact HB.out j (by omega))
      have HSU := hid (tyVals_succ ns i)
      by_cases k2 : 2 < ns[i].kind
      · have hnl := n_left hn k2
        obtain ⟨l, hle⟩ : ∃ l : Nat, ns[i].left = (l : Int) := ⟨ns[i].left.toNat, by omega⟩
        have hli : l < i := by omega
        obtain ⟨g5, rfl, hg5⟩ := owns_some hown (by omega)
        have m1 := ty_cell hown hli
        have ql : (l : Int) < (i : Int) := by omega
        have HLN : Hid (ns[i].left.toNat = l) := hid (by rw [hle]; simp)
        rw [HLN.out] at HBI
        rw [hle] at c2
        clear hnl hle
        generalize ty ns l = tl at *
        by_cases k7 : 7 ≤ ns[i].kind
        · by_cases k9 : ns[i].kind = 9
          · have t9 : (ns[i].kind == 9) = true := beq_iff_eq.2 k9
            have ht : two ns[i].kind = true := inR_iff.2 (by omega)
            have hw : wantOf ns[i].kind = 2 := by unfold wantOf; rw [if_pos (by omega)]
            have hnr := n_right hn ht
            obtain ⟨r, hre⟩ : ∃ r : Nat, ns[i].right = (r : Int) := ⟨ns[i].right.toNat, by omega⟩
            have hri : r < i := by omega
            have m2 := ty_cell hown hri
            have qr : (r : Int) < (i : Int) := by omega
            have HRN : Hid (ns[i].right.toNat = r) := hid (by rw [hre]; simp)
            rw [HRN.out, hw, ht] at HBI
            rw [ht] at HT
            rw [hre] at c3
            clear hnr hre ht hw HRN HLN
            generalize ty ns r = tr at *
            cases e1 : (tl != 2)
            · cases e2 : (tr != 2)
              · skip
                have HB0 : Hid (badAt ns i = false) := hid (by rw [HBI.out, e1, e2]; simp)
                have HTV : Hid (ty ns i = 2) := hid (by rw [HTI.out]; unfold tyOf; rw [if_pos (by omega)])
                clear hn HBI HTI hkd k9
                generalize ns[i] = nd at *
                go_wp2_with (first | (go_at_call 111; refine (HT.out _).mono ?_; rintro e w2 ⟨rfl, rfl⟩) | (at_builtin; go_must (refine wpList_append_own _ rfl _ _ 108 rfl w.heap.size 2 j0 (.int .i64 0) 1 8 Tryz.underlying108 hj hy0 hy1 hy2 rfl (by decide) _ _ _ rfl ((hown.alloc _).alloc _) ⟨_, 0, none⟩ 1 1 [.int .i64 2] rfl rfl (cell_one _ _ (by simp) _ _) (by simp [Value.oneCell']) (by unfold maxLen; omega) (by first | omega | (simp; omega)) (by first | omega | (simp; omega)) ?_); intro v' w3 hown' hgrow _; obtain ⟨g9, c9, rfl⟩ := ownsRow_succ hown'))
                have hB3 : Below w.heap.size w w3 := ((hbel.alloc hz _).alloc (by simp; omega) _).grown hgrow (by simp; omega) (fun b e => (own_lt hown e).1)
                refine ⟨⟨i + 1, by simp, by omega, ⟨_, _, rfl⟩, hid ?_, hid (HBS.out HB0.out), hB3⟩, by simp [intOf]; omega⟩
                rw [HSU.out, HTV.out]
                exact hown'
              · skip
                have HB0 : Hid (badAt ns i = true) := hid (by rw [HBI.out, e2]; simp)
                have HV := hid (tOk_bad hlt HB0.out)
                clear hn HBI HTI hkd k9
                generalize ns[i] = nd at *
                go_wp2_with (first | (go_at_call 111; refine (HT.out _).mono ?_; rintro e w2 ⟨rfl, rfl⟩))
                go_ret2
                exact ⟨⟨_, by rw [HV.out]; rfl, fun h => by rw [HV.out] at h; cases h⟩, hbel.alloc hz _⟩
            · skip
              have HB0 : Hid (badAt ns i = true) := hid (by rw [HBI.out, e1]; simp [k2])
              have HV := hid (tOk_bad hlt HB0.out)
              clear hn HBI HTI hkd k9
              generalize ns[i] = nd at *
              go_wp2_with (first | (go_at_call 111; refine (HT.out _).mono ?_; rintro e w2 ⟨rfl, rfl⟩))
              go_ret2
              exact ⟨⟨_, by rw [HV.out]; rfl, fun h => by rw [HV.out] at h; cases h⟩, hbel.alloc hz _⟩
          · have t9 : (ns[i].kind == 9) = false := beq_eq_false_iff_ne.2 k9
            by_cases k10 : ns[i].kind = 10
            · have t10 : (ns[i].kind == 10) = true := beq_iff_eq.2 k10
              have ht : two ns[i].kind = false := inR_not.2 (by omega)
              have hw : wantOf ns[i].kind = 2 := by unfold wantOf; rw [if_pos (by omega)]
              rw [hw, ht] at HBI
              rw [ht] at HT
              clear ht hw HLN
              cases e1 : (tl != 2)
              · skip
                have HB0 : Hid (badAt ns i = false) := hid (by rw [HBI.out, e1]; simp)
                have HTV : Hid (ty ns i = 2) := hid (by rw [HTI.out]; unfold tyOf; rw [if_pos (by omega)])
                clear hn HBI HTI hkd k10 k9
                generalize ns[i] = nd at *
                go_wp2_with (first | (go_at_call 111; refine (HT.out _).mono ?_; rintro e w2 ⟨rfl, rfl⟩) | (at_builtin; go_must (refine wpList_append_own _ rfl _ _ 108 rfl w.heap.size 2 j0 (.int .i64 0) 1 8 Tryz.underlying108 hj hy0 hy1 hy2 rfl (by decide) _ _ _ rfl ((hown.alloc _).alloc _) ⟨_, 0, none⟩ 1 1 [.int .i64 2] rfl rfl (cell_one _ _ (by simp) _ _) (by simp [Value.oneCell']) (by unfold maxLen; omega) (by first | omega | (simp; omega)) (by first | omega | (simp; omega)) ?_); intro v' w3 hown' hgrow _; obtain ⟨g9, c9, rfl⟩ := ownsRow_succ hown'))
                have hB3 : Below w.heap.size w w3 := ((hbel.alloc hz _).alloc (by simp; omega) _).grown hgrow (by simp; omega) (fun b e => (own_lt hown e).1)
                refine ⟨⟨i + 1, by simp, by omega, ⟨_, _, rfl⟩, hid ?_, hid (HBS.out HB0.out), hB3⟩, by simp [intOf]; omega⟩
                rw [HSU.out, HTV.out]
                exact hown'
              · skip
                have HB0 : Hid (badAt ns i = true) := hid (by rw [HBI.out, e1]; simp [k2])
                have HV := hid (tOk_bad hlt HB0.out)
                clear hn HBI HTI hkd k10 k9
                generalize ns[i] = nd at *
                go_wp2_with (first | (go_at_call 111; refine (HT.out _).mono ?_; rintro e w2 ⟨rfl, rfl⟩))
                go_ret2
                exact ⟨⟨_, by rw [HV.out]; rfl, fun h => by rw [HV.out] at h; cases h⟩, hbel.alloc hz _⟩
            · have t10 : (ns[i].kind == 10) = false := beq_eq_false_iff_ne.2 k10
              have ht : two ns[i].kind = true := inR_iff.2 (by omega)
              have hw : wantOf ns[i].kind = 1 := by unfold wantOf; rw [if_neg (by omega)]
              have hnr := n_right hn ht
              obtain ⟨r, hre⟩ : ∃ r : Nat, ns[i].right = (r : Int) := ⟨ns[i].right.toNat, by omega⟩
              have hri : r < i := by omega
              have m2 := ty_cell hown hri
              have qr : (r : Int) < (i : Int) := by omega
              have HRN : Hid (ns[i].right.toNat = r) := hid (by rw [hre]; simp)
              rw [HRN.out, hw, ht] at HBI
              rw [ht] at HT
              rw [hre] at c3
              clear hnr hre ht hw HRN HLN
              generalize ty ns r = tr at *
              cases e1 : (tl != 1)
              · cases e2 : (tr != 1)
                · skip
                  have HB0 : Hid (badAt ns i = false) := hid (by rw [HBI.out, e1, e2]; simp)
                  have HTV : Hid (ty ns i = 2) := hid (by rw [HTI.out]; unfold tyOf; rw [if_pos (by omega)])
                  clear hn HBI HTI hkd k9 k10
                  generalize ns[i] = nd at *
                  go_wp2_with (first | (go_at_call 111; refine (HT.out _).mono ?_; rintro e w2 ⟨rfl, rfl⟩) | (at_builtin; go_must (refine wpList_append_own _ rfl _ _ 108 rfl w.heap.size 2 j0 (.int .i64 0) 1 8 Tryz.underlying108 hj hy0 hy1 hy2 rfl (by decide) _ _ _ rfl ((hown.alloc _).alloc _) ⟨_, 0, none⟩ 1 1 [.int .i64 2] rfl rfl (cell_one _ _ (by simp) _ _) (by simp [Value.oneCell']) (by unfold maxLen; omega) (by first | omega | (simp; omega)) (by first | omega | (simp; omega)) ?_); intro v' w3 hown' hgrow _; obtain ⟨g9, c9, rfl⟩ := ownsRow_succ hown'))
                  have hB3 : Below w.heap.size w w3 := ((hbel.alloc hz _).alloc (by simp; omega) _).grown hgrow (by simp; omega) (fun b e => (own_lt hown e).1)
                  refine ⟨⟨i + 1, by simp, by omega, ⟨_, _, rfl⟩, hid ?_, hid (HBS.out HB0.out), hB3⟩, by simp [intOf]; omega⟩
                  rw [HSU.out, HTV.out]
                  exact hown'
                · skip
                  have HB0 : Hid (badAt ns i = true) := hid (by rw [HBI.out, e2]; simp)
                  have HV := hid (tOk_bad hlt HB0.out)
                  clear hn HBI HTI hkd k9 k10
                  generalize ns[i] = nd at *
                  go_wp2_with (first | (go_at_call 111; refine (HT.out _).mono ?_; rintro e w2 ⟨rfl, rfl⟩))
                  go_ret2
                  exact ⟨⟨_, by rw [HV.out]; rfl, fun h => by rw [HV.out] at h; cases h⟩, hbel.alloc hz _⟩
              · skip
                have HB0 : Hid (badAt ns i = true) := hid (by rw [HBI.out, e1]; simp [k2])
                have HV := hid (tOk_bad hlt HB0.out)
                clear hn HBI HTI hkd k9 k10
                generalize ns[i] = nd at *
                go_wp2_with (first | (go_at_call 111; refine (HT.out _).mono ?_; rintro e w2 ⟨rfl, rfl⟩))
                go_ret2
                exact ⟨⟨_, by rw [HV.out]; rfl, fun h => by rw [HV.out] at h; cases h⟩, hbel.alloc hz _⟩
        · have t9 : (ns[i].kind == 9) = false := beq_eq_false_iff_ne.2 (by omega)
          have t10 : (ns[i].kind == 10) = false := beq_eq_false_iff_ne.2 (by omega)
          have ht : two ns[i].kind = true := inR_iff.2 (by omega)
          have hw : wantOf ns[i].kind = 1 := by unfold wantOf; rw [if_neg (by omega)]
          have hnr := n_right hn ht
          obtain ⟨r, hre⟩ : ∃ r : Nat, ns[i].right = (r : Int) := ⟨ns[i].right.toNat, by omega⟩
          have hri : r < i := by omega
          have m2 := ty_cell hown hri
          have qr : (r : Int) < (i : Int) := by omega
          have HRN : Hid (ns[i].right.toNat = r) := hid (by rw [hre]; simp)
          rw [HRN.out, hw, ht] at HBI
          rw [ht] at HT
          rw [hre] at c3
          clear hnr hre ht hw HRN HLN
          generalize ty ns r = tr at *
          cases e1 : (tl != 1)
          · cases e2 : (tr != 1)
            · skip
              have HB0 : Hid (badAt ns i = false) := hid (by rw [HBI.out, e1, e2]; simp)
              have HTV : Hid (ty ns i = 1) := hid (by rw [HTI.out]; unfold tyOf; rw [if_neg (by omega)])
              clear hn HBI HTI hkd 
              generalize ns[i] = nd at *
              go_wp2_with (first | (go_at_call 111; refine (HT.out _).mono ?_; rintro e w2 ⟨rfl, rfl⟩) | (at_builtin; go_must (refine wpList_append_own _ rfl _ _ 108 rfl w.heap.size 2 j0 (.int .i64 0) 1 8 Tryz.underlying108 hj hy0 hy1 hy2 rfl (by decide) _ _ _ rfl ((hown.alloc _).alloc _) ⟨_, 0, none⟩ 1 1 [.int .i64 1] rfl rfl (cell_one _ _ (by simp) _ _) (by simp [Value.oneCell']) (by unfold maxLen; omega) (by first | omega | (simp; omega)) (by first | omega | (simp; omega)) ?_); intro v' w3 hown' hgrow _; obtain ⟨g9, c9, rfl⟩ := ownsRow_succ hown'))
              have hB3 : Below w.heap.size w w3 := ((hbel.alloc hz _).alloc (by simp; omega) _).grown hgrow (by simp; omega) (fun b e => (own_lt hown e).1)
              refine ⟨⟨i + 1, by simp, by omega, ⟨_, _, rfl⟩, hid ?_, hid (HBS.out HB0.out), hB3⟩, by simp [intOf]; omega⟩
              rw [HSU.out, HTV.out]
              exact hown'
            · skip
              have HB0 : Hid (badAt ns i = true) := hid (by rw [HBI.out, e2]; simp)
              have HV := hid (tOk_bad hlt HB0.out)
              clear hn HBI HTI hkd 
              generalize ns[i] = nd at *
              go_wp2_with (first | (go_at_call 111; refine (HT.out _).mono ?_; rintro e w2 ⟨rfl, rfl⟩))
              go_ret2
              exact ⟨⟨_, by rw [HV.out]; rfl, fun h => by rw [HV.out] at h; cases h⟩, hbel.alloc hz _⟩
          · skip
            have HB0 : Hid (badAt ns i = true) := hid (by rw [HBI.out, e1]; simp [k2])
            have HV := hid (tOk_bad hlt HB0.out)
            clear hn HBI HTI hkd 
            generalize ns[i] = nd at *
            go_wp2_with (first | (go_at_call 111; refine (HT.out _).mono ?_; rintro e w2 ⟨rfl, rfl⟩))
            go_ret2
            exact ⟨⟨_, by rw [HV.out]; rfl, fun h => by rw [HV.out] at h; cases h⟩, hbel.alloc hz _⟩
      · have t9 : (ns[i].kind == 9) = false := beq_eq_false_iff_ne.2 (by omega)
        have t10 : (ns[i].kind == 10) = false := beq_eq_false_iff_ne.2 (by omega)
        have k7 : ¬ 7 ≤ ns[i].kind := by omega
        have ht : two ns[i].kind = false := inR_not.2 (by omega)
        rw [ht] at HBI
        rw [ht] at HT
        have HB0 : Hid (badAt ns i = false) := hid (by rw [HBI.out]; simp [k2])
        have HTV : Hid (ty ns i = 1) := hid (by rw [HTI.out]; unfold tyOf; rw [if_neg (by omega)])
        clear hn HBI HTI hkd ht
        generalize ns[i] = nd at *
        go_wp2_with (first | (go_at_call 111; refine (HT.out _).mono ?_; rintro e w2 ⟨rfl, rfl⟩) | (at_builtin; go_must (refine wpList_append_own _ rfl _ _ 108 rfl w.heap.size 2 j0 (.int .i64 0) 1 8 Tryz.underlying108 hj hy0 hy1 hy2 rfl (by decide) _ _ _ rfl ((hown.alloc _).alloc _) ⟨_, 0, none⟩ 1 1 [.int .i64 1] rfl rfl (cell_one _ _ (by simp) _ _) (by simp [Value.oneCell']) (by unfold maxLen; omega) (by first | omega | (simp; omega)) (by first | omega | (simp; omega)) ?_); intro v' w3 hown' hgrow _; obtain ⟨g9, c9, rfl⟩ := ownsRow_succ hown'))
        have hB3 : Below w.heap.size w w3 := ((hbel.alloc hz _).alloc (by simp; omega) _).grown hgrow (by simp; omega) (fun b e => (own_lt hown e).1)
        refine ⟨⟨i + 1, by simp, by omega, ⟨_, _, rfl⟩, hid ?_, hid (HBS.out HB0.out), hB3⟩, by simp [intOf]; omega⟩
        rw [HSU.out, HTV.out]
        exact hown'
    · have hin : i = ns.length := by omega
      have HV := hid (tOk_all (fun j hj => HB.out j (by omega)))
      have HIN := hid hin
      clear hin
      go_wp2
      go_ret2
      exact ⟨⟨_, by rw [HV.out]; rfl, fun _ => by rw [← HIN.out]; exact HO.out⟩, hbel⟩
end Ex
end Go.Proofs.YtgghigfflpbjiaaGreatDoor
/- The specification's TypeOf. -/
namespace Go.Proofs.YtgghigfflpbjiaaGreatDoor
open Go.RowKit
set_option linter.unusedVariables false
namespace Ex
open Nd (NodeD)
theorem kept_cell {B : Nat} {W w : World} (h : Below B W w) {b o : Nat} (hb : b < B) {v : Value} (hc : W.cell? ⟨b, o, none⟩ = some v) : w.cell? ⟨b, o, none⟩ = some v := (h.cell (p := ⟨b, o, none⟩) hb).trans hc
theorem kept_free {B : Nat} {W w : World} (h : Below B W w) {b o : Nat} (hb : b < B) (hc : W.frozen? ⟨b, o, none⟩ = false) : w.frozen? ⟨b, o, none⟩ = false := (h.frozen (p := ⟨b, o, none⟩) hb).trans hc
theorem setB {B : Nat} {W w : World} (h : Below B W w) {b o : Nat} (hb : B ≤ b) (x : Value) : Below B W (w.setCell ⟨b, o, none⟩ x) := h.setCell hb x
theorem ret_two {c d x y : Int} (h : c = d) (h2 : x = y) : Ending.returned (.agg #[.int .i64 c, .int .i64 x]) = .returned (.agg #[.int .i64 d, .int .i64 y]) := by rw [h, h2]
set_option maxRecDepth 100000 in
set_option maxHeartbeats 2000000 in
theorem specType (B : Nat) (ns : List NodeD) (v : Value) (w : World) (hl : ns.length ≤ 1048576) (ha : Nd.At w B v ns) :
    Calls Tryz.prog 68 #[v] w fun e w' => e = .returned (.tuple #[.int .i64 (typeVal ns), .int .i64 (typeCode ns)]) ∧ Below w.heap.size w w' := by
  have HF := hid (specFault1 B ns v w hl ha)
  obtain ⟨a, cap, rfl⟩ := ha.slice
  have HA := hid ha
  clear ha
  go_enter Tryz.func68, Tryz.ntmps68
  go_wp2_with fail
  refine HF.out.mono ?_
  rintro e w1 ⟨rfl, hb1⟩
  by_cases hf : eFault ns = 0
  · have b1 : (eFault ns != 0) = false := by simp [hf]
    obtain ⟨h0, h16, hok⟩ := of_e hf
    have HFZ := hid hf
    have HT := hid (specTypes B ns _ w1 h16 hok (HA.out.below hb1))
    clear hf hok
    go_wp2_with fail
    refine HT.out.mono ?_
    rintro e w2 ⟨⟨u, rfl, ho⟩, hb2⟩
    have B2 := hb1.trans (hb2.mono hb1.size)
    cases hto : tOk ns
    · have HV := hid (ty_bad HFZ.out hto)
      clear hto ho
      go_wp2
      go_ret2
      exact ⟨by rw [HV.out.1, HV.out.2]; rfl, B2⟩
    · have HV := hid (ty_ok HFZ.out hto)
      have ho2 := ho hto
      clear hto ho
      obtain ⟨a1, d1, rfl⟩ := owns_slice ho2
      obtain ⟨g5, rfl, hg5⟩ := owns_some ho2 h0
      have m0 := ty_cell ho2 (j := ns.length - 1) (by omega)
      have hcast : (ns.length : Int) - 1 = ((ns.length - 1 : Nat) : Int) := by omega
      have q1 : ((ns.length - 1 : Nat) : Int) < (ns.length : Int) := by omega
      clear ho2
      go_wp2
      go_ret2
      exact ⟨by rw [HV.out.1, HV.out.2]; rfl, B2⟩
  · have HV := hid (ty_fault hf)
    have b1 : (eFault ns != 0) = true := by simpa using hf
    clear hf
    go_wp2
    go_ret2
    exact ⟨by rw [HV.out.1, HV.out.2]; rfl, hb1⟩
end Ex
end Go.Proofs.YtgghigfflpbjiaaGreatDoor
/- The specification's EvalExpr: one node of two numbers. -/
namespace Go.Proofs.YtgghigfflpbjiaaGreatDoor
open Go.RowKit
set_option linter.unusedVariables false
namespace Ex
open Nd (NodeD)
def bit (b : Bool) : Int := if b then 1 else 0
def oneVal (k a b : Int) : Int :=
  if k = 3 then a + b else if k = 4 then a - b else if k = 5 then a * b else if k = 6 then (if b = 0 then 0 else a.tdiv b) else if k = 7 then bit (decide (a < b)) else if k = 8 then bit (a == b) else if k = 9 then a * b else 1 - a
def oneOk (k a b : Int) : Bool := !((k == 6) && (b == 0)) && inR (oneVal k a b) (-1000000) 1000000
theorem mul_le {a b : Int} (h1 : -1000000 ≤ a) (h2 : a ≤ 1000000) (h3 : -1000000 ≤ b) (h4 : b ≤ 1000000) : -1000000000000 ≤ a * b ∧ a * b ≤ 1000000000000 := by
  have h : (a * b).natAbs ≤ 1000000 * 1000000 := by
    rw [Int.natAbs_mul]
    exact Nat.mul_le_mul (by omega) (by omega)
  omega
theorem div_le {a b : Int} (h1 : -1000000 ≤ a) (h2 : a ≤ 1000000) : -1000000 ≤ a.tdiv b ∧ a.tdiv b ≤ 1000000 := by
  have h : (a.tdiv b).natAbs ≤ a.natAbs := by
    rw [Int.natAbs_tdiv]
    exact Nat.div_le_self _ _
  omega
end Ex
end Go.Proofs.YtgghigfflpbjiaaGreatDoor
/- What an expression comes to, as a plain function, and facts about it. -/
namespace Go.Proofs.YtgghigfflpbjiaaGreatDoor
open Go.RowKit
set_option linter.unusedVariables false
namespace Ex
open Nd (NodeD)
def valAt (ns : List NodeD) (vars vs : List Int) (i : Nat) : Int := if (NJ ns i).kind = 2 then vars.getD (NJ ns i).value.toNat 0 else if 2 < (NJ ns i).kind then oneVal (NJ ns i).kind (vs.getD (NJ ns i).left.toNat 0) (vs.getD (NJ ns i).right.toNat 0) else (NJ ns i).value
def evs (ns : List NodeD) (vars : List Int) : Nat → List Int
  | 0 => []
  | i + 1 => evs ns vars i ++ [valAt ns vars (evs ns vars i) i]
def evBad (ns : List NodeD) (vars : List Int) (i : Nat) : Bool := decide (2 < (NJ ns i).kind) && !oneOk (NJ ns i).kind ((evs ns vars i).getD (NJ ns i).left.toNat 0) ((evs ns vars i).getD (NJ ns i).right.toNat 0)
def evOk (ns : List NodeD) (vars : List Int) : Bool := (List.range ns.length).all (fun j => !evBad ns vars j)
def evalCode (ns : List NodeD) (vars : List Int) : Int := if typeCode ns ≠ 0 then typeCode ns else if vFault vars ≠ 0 then vFault vars else if evOk ns vars = true then 0 else 8
def evalVal (ns : List NodeD) (vars : List Int) : Int := if evalCode ns vars = 0 then (evs ns vars ns.length).getD (ns.length - 1) 0 else 0
theorem ev_type {ns : List NodeD} {vars : List Int} (h : typeCode ns ≠ 0) : evalCode ns vars = typeCode ns ∧ evalVal ns vars = 0 := by
  have e : evalCode ns vars = typeCode ns := by unfold evalCode; rw [if_pos h]
  exact ⟨e, by unfold evalVal; rw [if_neg (by rw [e]; exact h)]⟩
theorem ev_vars {ns : List NodeD} {vars : List Int} (h : typeCode ns = 0) (h2 : vFault vars ≠ 0) : evalCode ns vars = vFault vars ∧ evalVal ns vars = 0 := by
  have e : evalCode ns vars = vFault vars := by unfold evalCode; rw [if_neg (by simp [h]), if_pos h2]
  exact ⟨e, by unfold evalVal; rw [if_neg (by rw [e]; exact h2)]⟩
theorem ev_bad {ns : List NodeD} {vars : List Int} (h : typeCode ns = 0) (h2 : vFault vars = 0) (h3 : evOk ns vars = false) : evalCode ns vars = 8 ∧ evalVal ns vars = 0 := by
  have e : evalCode ns vars = 8 := by unfold evalCode; rw [if_neg (by simp [h]), if_neg (by simp [h2]), if_neg (by simp [h3])]
  exact ⟨e, by unfold evalVal; rw [if_neg (by rw [e]; decide)]⟩
theorem ev_ok {ns : List NodeD} {vars : List Int} (h : typeCode ns = 0) (h2 : vFault vars = 0) (h3 : evOk ns vars = true) : evalCode ns vars = 0 ∧ evalVal ns vars = (evs ns vars ns.length).getD (ns.length - 1) 0 := by
  have e : evalCode ns vars = 0 := by unfold evalCode; rw [if_neg (by simp [h]), if_neg (by simp [h2]), if_pos h3]
  exact ⟨e, by unfold evalVal; rw [if_pos e]⟩
theorem evOk_bad {ns : List NodeD} {vars : List Int} {i : Nat} (hi : i < ns.length) (h : evBad ns vars i = true) : evOk ns vars = false := by
  unfold evOk
  rw [List.all_eq_false]
  exact ⟨i, by simpa using hi, by simp [h]⟩
theorem evOk_all {ns : List NodeD} {vars : List Int} (h : ∀ j, j < ns.length → evBad ns vars j = false) : evOk ns vars = true := by
  unfold evOk
  rw [List.all_eq_true]
  intro j hj
  rw [h j (by simpa using hj)]
  rfl
theorem of_type {ns : List NodeD} (h : typeCode ns = 0) : eFault ns = 0 := by
  unfold typeCode at h
  by_cases e : eFault ns ≠ 0
  · rw [if_pos e] at h; exact absurd h e
  · simpa using e
theorem of_v {xs : List Int} (h : vFault xs = 0) : xs.length = 4 ∧ ∀ i (hi : i < xs.length), inR xs[i] (-1000000) 1000000 = true := by
  unfold vFault at h
  by_cases h1 : xs.length ≠ 4
  · rw [if_pos h1] at h; omega
  · rw [if_neg h1] at h
    by_cases h2 : xs.all (fun x => inR x (-1000000) 1000000) = true
    · exact ⟨by omega, fun i hi => List.all_eq_true.1 h2 _ (List.getElem_mem hi)⟩
    · rw [if_neg h2] at h; omega
theorem evs_len (ns : List NodeD) (vars : List Int) : ∀ i, (evs ns vars i).length = i
  | 0 => rfl
  | i + 1 => by rw [evs, List.length_append, evs_len ns vars i]; rfl
theorem v_const {n : NodeD} {i : Int} (h : nCode n i = 0) (hk : n.kind = 1) : 0 ≤ n.value ∧ n.value ≤ 9999 := by
  have h3 := (of_n h).2.2.1
  unfold wide at h3
  simp only [hk, Bool.or_eq_false_iff, Bool.and_eq_false_iff, Bool.not_eq_false'] at h3
  rcases h3.1 with h4 | h4
  · simp at h4
  · exact inR_iff.1 h4
theorem v_var {n : NodeD} {i : Int} (h : nCode n i = 0) (hk : n.kind = 2) : 0 ≤ n.value ∧ n.value ≤ 3 := by
  have h3 := (of_n h).2.2.1
  unfold wide at h3
  simp only [hk, Bool.or_eq_false_iff, Bool.and_eq_false_iff, Bool.not_eq_false'] at h3
  rcases h3.2 with h4 | h4
  · simp at h4
  · exact inR_iff.1 h4
theorem v_not {n : NodeD} {i : Int} (h : nCode n i = 0) (hk : n.kind = 10) : n.right = 0 := by
  have h3 := (of_n h).2.1
  unfold has at h3
  simp only [hk, Bool.or_eq_false_iff, Bool.and_eq_false_iff] at h3
  rcases h3.2 with h4 | h4
  · simp at h4
  · simpa using h4
/-- All values so far are within the bounds. -/
theorem evs_in {ns : List NodeD} {vars : List Int} (hok : ∀ k, k < ns.length → nCode (NJ ns k) k = 0) (hv : vFault vars = 0) : ∀ {i : Nat}, i ≤ ns.length → (∀ j, j < i → evBad ns vars j = false) → ∀ x ∈ evs ns vars i, -1000000 ≤ x ∧ x ≤ 1000000
  | 0, _, _, x, hx => by simp [evs] at hx
  | i + 1, hi, hb, x, hx => by
    rw [evs] at hx
    rcases List.mem_append.1 hx with h | h
    · exact evs_in hok hv (by omega) (fun j hj => hb j (by omega)) x h
    · obtain rfl := List.mem_singleton.1 h
      have hn := hok i (by omega)
      have hk := inR_iff.1 (of_n hn).1
      obtain ⟨h4, hall⟩ := of_v hv
      unfold valAt
      by_cases k2 : (NJ ns i).kind = 2
      · rw [if_pos k2]
        have h5 := v_var hn k2
        have hlt : (NJ ns i).value.toNat < vars.length := by omega
        have h6 := inR_iff.1 (hall _ hlt)
        rw [List.getD_eq_getElem?_getD, List.getElem?_eq_getElem hlt]
        simpa using h6
      · rw [if_neg k2]
        by_cases k3 : 2 < (NJ ns i).kind
        · rw [if_pos k3]
          have h5 := hb i (by omega)
          unfold evBad at h5
          simp only [k3, decide_true, Bool.true_and, Bool.not_eq_false'] at h5
          unfold oneOk at h5
          simp only [Bool.and_eq_true] at h5
          exact inR_iff.1 h5.2
        · rw [if_neg k3]
          have h5 := v_const hn (by omega)
          omega
def iVals (l : List Int) : List Value := l.map fun x => .int .i64 x
theorem i_cell {w : World} {base g cap j n : Nat} {e : TypeId} {l : List Int} (h : w.ownsRow base e 1 (.slice (some ⟨g, 0, none⟩) n cap) n (iVals l)) (hl : l.length = n) (hj : j < n) : w.cell? ⟨g, j, none⟩ = some (.int .i64 (l.getD j 0)) := by
  have h1 := owns_cell h hj (by simp [iVals]; omega)
  rw [List.getD_eq_getElem?_getD, List.getElem?_eq_getElem (by omega)]
  simpa [iVals] using h1
theorem iVals_snoc (l : List Int) (x : Int) : iVals (l ++ [x]) = iVals l ++ [.int .i64 x] := by simp [iVals]
theorem getD_in {l : List Int} (h : ∀ x ∈ l, -1000000 ≤ x ∧ x ≤ 1000000) {j : Nat} (hj : j < l.length) : -1000000 ≤ l.getD j 0 ∧ l.getD j 0 ≤ 1000000 := by
  rw [List.getD_eq_getElem?_getD, List.getElem?_eq_getElem hj]
  exact h _ (List.getElem_mem hj)
end Ex
end Go.Proofs.YtgghigfflpbjiaaGreatDoor
