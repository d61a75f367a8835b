/- Laid together: TrS, TrT, TrI. -/
import Derived.Test.YtgghigfflpbjiaaGreatDoorGC
import Derived.Test.YtgghigfflpbjiaaGreatDoorGR
import Derived.Deep.QuietTactic
import Derived.BigQuiet
import Derived.Deep.RegionWith
/- What is wrong with a tree, as the specification tells it: attrs, paths, elements. -/
namespace Go.Proofs.YtgghigfflpbjiaaGreatDoor
open Go.RowKit
set_option linter.unusedVariables false
namespace Tr
theorem AttrsAt.take {w : World} {B : Nat} {a : Option Addr} {n cap : Nat} {l : List AttrD} (h : AttrsAt w B (.slice a n cap) l) {k : Nat} (hk : k ≤ l.length) : AttrsAt w B (.slice a k cap) (l.take k) := by
  obtain ⟨a', cap', e, h1, h2, h⟩ := h
  cases e
  refine ⟨a, cap, by rw [List.length_take, Nat.min_eq_left hk], by rw [List.length_take]; omega, h2, ?_⟩
  rcases h with h | ⟨g, o, rfl, hB, hg, hc⟩
  · exact .inl (by simp [h])
  · refine .inr ⟨g, o, rfl, hB, hg, fun i hi => ?_⟩
    have hi' : i < l.length := by simp at hi; omega
    rw [List.getElem_take]
    exact hc i hi'
theorem AttrsAt.drew {w : World} {B : Nat} {v : Value} {l : List AttrD} (h : AttrsAt w B v l) (n : Nat) : AttrsAt (w.drewN n) B v l := h.kept (Nat.le_refl _) (fun _ _ _ => rfl)
theorem ElemsAt.drew {w : World} {B : Nat} {v : Value} {l : List ElemD} (h : ElemsAt w B v l) (n : Nat) : ElemsAt (w.drewN n) B v l := h.kept (Nat.le_refl _) (fun _ _ _ => rfl)
theorem below_drewN' {B : Nat} {a w : World} (h : Below B a w) (n : Nat) : Below B a (w.drewN n) := ⟨h.os, h.tape, h.output, h.size, h.block⟩
theorem vcode_same (l : List UInt8) : vcode l = Esc.vcode l := rfl
theorem chain_get {es : List ElemD} {a : Nat} {r : List Nat} (h : Chain es (a :: r)) : ∃ h1 : a < es.length, es[a].parent = top r := by
  obtain ⟨⟨e, he, hp⟩, _, _⟩ := h
  obtain ⟨h1, h2⟩ := List.getElem?_eq_some_iff.1 he
  exact ⟨h1, by rw [h2]; exact hp⟩
/-- The first place of a name, -1 where there is none. -/
def attrIdx (l : List AttrD) (nm : ByteArray) : Int := match l.findIdx? (fun a => a.name.toList == nm.toList) with
  | some i => i
  | none => -1
theorem idx_found {l : List AttrD} {nm : ByteArray} {k : Nat} (hk : k < l.length) (hy : (l[k].name.toList == nm.toList) = true) (hn : ∀ j (h : j < l.length), j < k → (l[j].name.toList == nm.toList) = false) : attrIdx l nm = k := by
  unfold attrIdx
  have h : l.findIdx? (fun a => a.name.toList == nm.toList) = some k := List.findIdx?_eq_some_iff_getElem.2 ⟨hk, hy, fun j hj => by rw [hn j (Nat.lt_trans hj hk) hj]; decide⟩
  rw [h]
theorem idx_none {l : List AttrD} {nm : ByteArray} (hn : ∀ j (h : j < l.length), (l[j].name.toList == nm.toList) = false) : attrIdx l nm = -1 := by
  unfold attrIdx
  have h : l.findIdx? (fun a => a.name.toList == nm.toList) = none := List.findIdx?_eq_none_iff.2 (fun a ha => by
    obtain ⟨j, hj, rfl⟩ := List.getElem_of_mem ha
    exact hn j hj)
  rw [h]
theorem idx_lo (l : List AttrD) (nm : ByteArray) : -1 ≤ attrIdx l nm := by unfold attrIdx; split <;> omega
theorem idx_has (l : List AttrD) (nm : ByteArray) : hasName l nm = decide (0 ≤ attrIdx l nm) := by
  unfold hasName attrIdx
  cases h : l.findIdx? (fun a => a.name.toList == nm.toList) with
  | none =>
    rw [List.findIdx?_eq_none_iff] at h
    rw [List.any_eq_false.2 (fun a ha => by rw [h a ha]; decide)]
    rfl
  | some i =>
    obtain ⟨hi, hy, _⟩ := List.findIdx?_eq_some_iff_getElem.1 h
    rw [List.any_eq_true.2 ⟨l[i], List.getElem_mem hi, hy⟩]
    have : (0 : Int) ≤ (i : Int) := by omega
    simp [this]
set_option maxRecDepth 100000 in
set_option maxHeartbeats 400000 in
theorem specIn (v a b : Int) (w : World) : Calls Tryz.prog 41 #[.int .i64 v, .int .i64 a, .int .i64 b] w fun e w' => e = .returned (.bool (decide (a ≤ v) && decide (v ≤ b))) ∧ w' = w := by
  by_cases h1 : a ≤ v
  · by_cases h2 : v ≤ b
    · go_enter Tryz.func41, Tryz.ntmps41
      go_wp2
      go_ret
      exact ⟨by simp [h1, h2], rfl⟩
    · go_enter Tryz.func41, Tryz.ntmps41
      go_wp2
      go_ret
      exact ⟨by simp [h2], rfl⟩
  · go_enter Tryz.func41, Tryz.ntmps41
    go_wp2
    go_ret
    exact ⟨by simp; omega, rfl⟩
set_option maxRecDepth 100000 in
set_option maxHeartbeats 1000000 in
theorem specAttr (B : Nat) (l : List AttrD) (v : Value) (nm : ByteArray) (w : World) (hl : l.length ≤ 1048576) (ha : AttrsAt w B v l) :
    Calls Tryz.prog 71 #[v, .string nm] w fun e w' => e = .returned (.int .i64 (attrIdx l nm)) ∧ w' = w := by
  obtain ⟨a, cap, rfl⟩ := ha.slice
  have HA := hid ha
  clear ha
  go_enter Tryz.func71, Tryz.ntmps71
  go_wp2
  go_loop [5] (fun i => ∃ k : Nat, k ≤ l.length ∧ i = .int .i64 k ∧ Hid (∀ j (h : j < l.length), j < k → (l[j].name.toList == nm.toList) = false)) (fun i => l.length - (intOf i).toNat)
  case atStart => exact ⟨0, Nat.zero_le _, rfl, fun j _ h => by omega⟩
  case round =>
    obtain ⟨k, hk, rfl, HJ⟩ := hrel
    by_cases hlt : k < l.length
    · obtain ⟨g, o, rfl, hg, c0, c1⟩ := HA.out.at hlt
      have q1 : (k : Int) < (l.length : Int) := by omega
      cases hE : (l[k].name.toList == nm.toList)
      · have HJ2 : Hid (∀ j (h : j < l.length), j < k + 1 → (l[j].name.toList == nm.toList) = false) := hid (fun j h hj => by
          by_cases e : j = k
          · subst e; exact hE
          · exact HJ.out j h (by omega))
        go_wp2
        exact ⟨⟨k + 1, by omega, by go_num, HJ2⟩, by simp [intOf]; omega⟩
      · have HV : Hid (attrIdx l nm = k) := idx_found hlt hE HJ.out
        go_wp2
        go_ret
        exact ⟨by rw [HV.out]; rfl, rfl⟩
    · have HV : Hid (attrIdx l nm = -1) := idx_none (fun j hj => HJ.out j hj (by omega))
      go_wp2
      go_ret
      exact ⟨by rw [HV.out]; rfl, rfl⟩
set_option maxRecDepth 100000 in
set_option maxHeartbeats 2000000 in
theorem specAttrs (B : Nat) (l : List AttrD) (v : Value) (w : World) (hl : l.length ≤ 1048576) (hk : OkA l) (ha : AttrsAt w B v l) :
    Calls Tryz.prog 44 #[v] w fun e w' => e = .returned (.int .i64 (acode l)) ∧ Below w.heap.size w w' := by
  obtain ⟨a, cap, rfl⟩ := ha.slice
  have HA := hid ha
  have HK := hid hk
  clear ha hk
  go_enter Tryz.func44, Tryz.ntmps44
  go_wp2
  go_loopw [3, 4, 5] (fun i _ _ wr => ∃ k : Nat, i = .int .i64 k ∧ Hid (SeenA l k) ∧ k ≤ l.length ∧ Hid (Below w.heap.size w wr)) (fun i _ _ _ => l.length - (intOf i).toNat)
  case atStart => exact ⟨0, rfl, SeenA.start l, Nat.zero_le _, Below.refl _ _⟩
  case round =>
    obtain ⟨k, rfl, HS, hkl, HB⟩ := hrel
    by_cases hlt : k < l.length
    · have hA := HA.out.below HB.out
      obtain ⟨g, o, rfl, hg, c0, c1⟩ := hA.at hlt
      have hcap := hA.cap.1
      have hcap2 := hA.cap.2
      unfold maxLen at hcap2
      have HA2 := hid hA
      clear hA
      have q1 : (k : Int) < (l.length : Int) := by omega
      have hkk := HK.out l[k] (List.getElem_mem hlt)
      have h1 := hkk.1
      have h2 := hkk.2
      clear hkk
      have HN := hid (fun w' => spec_nf1 l[k].name w' h1)
      have HX := hid (fun w' => Esc.specValue l[k].value w' h2)
      by_cases hn : nf l[k].name.data.toList = 0
      · have b1 : (nf l[k].name.data.toList != 0) = false := by simp [hn]
        have HNM := hid hn
        have HT := hid (fun n => specAttr B (l.take k) (.slice (some ⟨g, o, none⟩) k cap) l[k].name (wr.drewN n) (by rw [List.length_take]; omega) ((HA2.out.take hkl).drew n))
        have hix := idx_has (l.take k) l[k].name
        have hlo := idx_lo (l.take k) l[k].name
        generalize attrIdx (l.take k) l[k].name = ix at *
        by_cases hx : 0 ≤ ix
        · have HV : Hid (acode l = 6) := hid (HS.out.taken hlt hn (by rw [hix]; simpa using hx))
          clear hn hix
          go_wp2_with (go_at_call 40; refine (HN.out _).mono ?_; rintro e w' ⟨rfl, rfl⟩)
          go_quiet ((go_at_call 71; exact Calls.quiet_of_same (HT.out _)))
          go_wp2
          go_ret
          exact ⟨by rw [HV.out]; rfl, below_drewN' HB.out nq⟩
        · by_cases hv : vcode l[k].value.data.toList = 0
          · have HV : Hid (SeenA l (k + 1)) := hid (HS.out.next hlt hn (by rw [hix]; simpa using hx) hv)
            have b2 : (Esc.vcode l[k].value.data.toList != 0) = false := by rw [← vcode_same]; simp [hv]
            clear hn hix hv
            go_wp2_with (go_at_call 40; refine (HN.out _).mono ?_; rintro e w' ⟨rfl, rfl⟩)
            go_quiet ((go_at_call 71; exact Calls.quiet_of_same (HT.out _)))
            go_wp2_with (go_at_call 72; refine (HX.out _).mono ?_; rintro e w' ⟨rfl, rfl⟩)
            exact ⟨⟨k + 1, by simp, HV, by omega, hid (below_drewN' HB.out nq)⟩, by simp [intOf]; omega⟩
          · have HV : Hid (acode l = Esc.vcode l[k].value.data.toList) := hid (HS.out.value hlt hn (by rw [hix]; simpa using hx) hv)
            have b2 : (Esc.vcode l[k].value.data.toList != 0) = true := by rw [← vcode_same]; simpa using hv
            clear hn hix hv
            go_wp2_with (go_at_call 40; refine (HN.out _).mono ?_; rintro e w' ⟨rfl, rfl⟩)
            go_quiet ((go_at_call 71; exact Calls.quiet_of_same (HT.out _)))
            go_wp2_with (go_at_call 72; refine (HX.out _).mono ?_; rintro e w' ⟨rfl, rfl⟩)
            go_ret
            exact ⟨by rw [HV.out]; rfl, below_drewN' HB.out nq⟩
      · have b1 : (nf l[k].name.data.toList != 0) = true := by simpa using hn
        have HV : Hid (acode l = nf l[k].name.data.toList) := hid (HS.out.name hlt hn)
        clear hn
        go_wp2_with (go_at_call 40; refine (HN.out _).mono ?_; rintro e w' ⟨rfl, rfl⟩)
        go_ret
        exact ⟨by rw [HV.out]; rfl, HB.out⟩
    · have HV : Hid (acode l = 0) := hid (HS.out.done hlt)
      go_wp2
      go_ret
      exact ⟨by rw [HV.out]; rfl, HB.out⟩
set_option maxRecDepth 100000 in
set_option maxHeartbeats 1000000 in
theorem specLine (B : Nat) (es : List ElemD) (v : Value) (i : Nat) (S : List Nat) (w : World) (hl : es.length ≤ 40) (hi : i < es.length) (hc : Chain es S) (h1 : top S = (i : Int) - 1) (ha : ElemsAt w B v es) :
    Calls Tryz.prog 42 #[v, .int .i64 i] w fun e w' => e = .returned (.bool (onPath es[i].parent S)) ∧ w' = w := by
  obtain ⟨a, cap, rfl⟩ := ha.slice
  obtain ⟨g, o, vi, rfl, hg, d0, d1, d2, _⟩ := ha.at hi
  have HA := hid ha
  have HC := hid hc
  have H1 := hid h1
  clear ha hc h1 d0 d2
  have q1 : (i : Int) < (es.length : Int) := by omega
  go_enter Tryz.func42, Tryz.ntmps42
  go_wp2
  go_loop [5] (fun x => ∃ S' : List Nat, x = .int .i64 (top S') ∧ Hid (Chain es S' ∧ onPath es[i].parent S = onPath es[i].parent S')) (fun x => (intOf x + 1).toNat)
  case atStart => exact ⟨S, by rw [H1.out], HC.out, rfl⟩
  case round =>
    obtain ⟨S', rfl, HS⟩ := hrel
    cases S' with
    | nil =>
      have HV : Hid (onPath es[i].parent S = false) := hid (by rw [HS.out.2]; rfl)
      have q2 : ¬ (0 : Int) ≤ top [] := by decide
      go_wp2
      go_ret
      exact ⟨by rw [HV.out]; rfl, rfl⟩
    | cons x r =>
      obtain ⟨hx, hp⟩ := chain_get HS.out.1
      have htl := top_lt HS.out.1
      have htg := top_ge r
      have hct := chain_tail HS.out.1
      obtain ⟨g', o', vx, e', hg', c0, c1, c2, _⟩ := HA.out.at hx
      cases e'
      rw [hp] at c1
      clear c0 c2
      have ht : top (x :: r) = (x : Int) := rfl
      rw [ht]
      have q2 : (0 : Int) ≤ (x : Int) := by omega
      have q3 : (x : Int) < (es.length : Int) := by omega
      by_cases he : (x : Int) = es[i].parent
      · have HV : Hid (onPath es[i].parent S = true) := hid (by rw [HS.out.2, onPath_cons]; simp [he])
        have b1 : ((x : Int) == es[i].parent) = true := beq_iff_eq.2 he
        clear he
        go_wp2
        go_ret
        exact ⟨by rw [HV.out]; rfl, rfl⟩
      · have HV : Hid (Chain es r ∧ onPath es[i].parent S = onPath es[i].parent r) := hid ⟨hct, by rw [HS.out.2, onPath_cons]; simp [he]⟩
        have b1 : ((x : Int) == es[i].parent) = false := beq_eq_false_iff_ne.2 he
        clear he hct
        go_wp2
        exact ⟨⟨r, rfl, HV⟩, by simp [intOf]; omega⟩
set_option maxRecDepth 100000 in
set_option maxHeartbeats 1000000 in
theorem specDeep (B : Nat) (es : List ElemD) (v : Value) (S : List Nat) (w : World) (hl : es.length ≤ 40) (hc : Chain es S) (h8 : S.length ≤ 49) (ha : ElemsAt w B v es) :
    Calls Tryz.prog 43 #[v, .int .i64 (top S)] w fun e w' => e = .returned (.int .i64 (S.length : Int)) ∧ w' = w := by
  obtain ⟨a, cap, rfl⟩ := ha.slice
  have HA := hid ha
  have HC := hid hc
  clear ha hc
  go_enter Tryz.func43, Tryz.ntmps43
  go_wp2
  go_loop [1, 5] (fun x y => ∃ (S' : List Nat) (n : Nat), x = .int .i64 (top S') ∧ y = .int .i64 (n : Int) ∧ n + S'.length = S.length ∧ Hid (Chain es S')) (fun x _ => (intOf x + 1).toNat)
  case atStart => exact ⟨S, 0, rfl, rfl, by omega, HC.out⟩
  case round =>
    obtain ⟨S', n, rfl, rfl, hn, HS⟩ := hrel
    cases S' with
    | nil =>
      have hn' : n = S.length := by simpa using hn
      subst hn'
      have q2 : ¬ (0 : Int) ≤ top [] := by decide
      go_wp2
      go_ret
      exact ⟨rfl, rfl⟩
    | cons x r =>
      obtain ⟨hx, hp⟩ := chain_get HS.out
      have htl := top_lt HS.out
      have htg := top_ge r
      have hct := hid (chain_tail HS.out)
      obtain ⟨g', o', vx, e', hg', c0, c1, c2, _⟩ := HA.out.at hx
      cases e'
      rw [hp] at c1
      clear c0 c2
      have ht : top (x :: r) = (x : Int) := rfl
      rw [ht]
      simp only [List.length_cons] at hn
      have q2 : (0 : Int) ≤ (x : Int) := by omega
      have q3 : (x : Int) < (es.length : Int) := by omega
      have q4 : (n : Int) < 50 := by omega
      go_wp2
      exact ⟨⟨r, n + 1, rfl, by go_num, by omega, hct⟩, by simp [intOf]; omega⟩
end Tr
end Go.Proofs.YtgghigfflpbjiaaGreatDoor
/- TreeFault of the specification. -/
namespace Go.Proofs.YtgghigfflpbjiaaGreatDoor
open Go.RowKit
set_option linter.unusedVariables false
namespace Tr
set_option maxRecDepth 100000 in
set_option maxHeartbeats 4000000 in
theorem specFault1 (B : Nat) (es : List ElemD) (v : Value) (w : World) (hl : es.length ≤ 1048576) (hk : OkE es) (ha : ElemsAt w B v es) :
    Calls Tryz.prog 20 #[v] w fun e w' => e = .returned (.int .i64 (fault es)) ∧ Below w.heap.size w w' := by
  obtain ⟨a, cap, rfl⟩ := ha.slice
  have HA := hid ha
  have HK := hid hk
  clear ha hk
  by_cases z1 : es.length < 1
  · have HV := hid (fault_many (.inl z1))
    have q : (es.length : Int) < 1 := by omega
    go_enter Tryz.func20, Tryz.ntmps20
    go_wp2
    go_ret
    exact ⟨by rw [HV.out]; rfl, Below.refl _ _⟩
  by_cases z2 : 40 < es.length
  · have HV := hid (fault_many (.inr z2))
    have q : ¬ (es.length : Int) < 1 := by omega
    have q' : (40 : Int) < (es.length : Int) := by omega
    go_enter Tryz.func20, Tryz.ntmps20
    go_wp2
    go_ret
    exact ⟨by rw [HV.out]; rfl, Below.refl _ _⟩
  have q : ¬ (es.length : Int) < 1 := by omega
  have q' : ¬ (40 : Int) < (es.length : Int) := by omega
  have HZ := hid (Seen.start z1 z2)
  have hl40 : es.length ≤ 40 := by omega
  clear z1 z2
  go_enter Tryz.func20, Tryz.ntmps20
  go_wp2
  go_loopw [3, 4, 5, 6] (fun x _ _ _ wr => ∃ (i : Nat) (S : List Nat), x = .int .i64 i ∧ Hid (Seen es i S) ∧ i ≤ es.length ∧ Hid (Below w.heap.size w wr)) (fun x _ _ _ _ => es.length - (intOf x).toNat)
  case atStart => exact ⟨0, [], rfl, HZ, Nat.zero_le _, Below.refl _ _⟩
  case round =>
    obtain ⟨i, S, rfl, HS, hil, HB⟩ := hrel
    by_cases hlt : i < es.length
    · have hA := HA.out.below HB.out
      obtain ⟨g, o, va, rfl, hg, c0, c1, c2, hva⟩ := hA.at hlt
      have q1 : (i : Int) < (es.length : Int) := by omega
      have hkk := HK.out es[i] (List.getElem_mem hlt)
      have k1 := hkk.1
      have HKA := hid hkk.2.1
      clear hkk
      have HN := hid (fun w' => spec_nf1 es[i].tag w' k1)
      by_cases hn : nf es[i].tag.data.toList = 0
      · have b1 : (nf es[i].tag.data.toList != 0) = false := by simp [hn]
        by_cases hp : (i = 0 ∧ es[i].parent ≠ -1) ∨ (0 < i ∧ ¬ (0 ≤ es[i].parent ∧ es[i].parent < i))
        · have HV := hid (HS.out.range hlt hn hp)
          obtain ⟨b, e2, rfl⟩ := hva.slice
          rcases hp with ⟨hi0, hp⟩ | ⟨hi0, hp⟩
          · have r1 : ((i : Int) == 0) = true := beq_iff_eq.2 (by omega)
            have r2 : (es[i].parent != -1) = true := bne_iff_ne.2 hp
            clear hA hva hi0 hp hn
            go_wp2_with (go_at_call 40; refine (HN.out _).mono ?_; rintro e w' ⟨rfl, rfl⟩)
            go_ret
            exact ⟨by rw [HV.out]; rfl, HB.out⟩
          · have r1 : ((i : Int) == 0) = false := beq_eq_false_iff_ne.2 (by omega)
            have r2 : (0 : Int) < (i : Int) := by omega
            have HI := hid (fun w' => specIn es[i].parent 0 ((i : Int) - 1) w')
            have r3 : (decide (0 ≤ es[i].parent) && decide (es[i].parent ≤ (i : Int) - 1)) = false := by
              rw [← Bool.not_eq_true]; intro e; apply hp; simp at e; omega
            rw [r3] at HI
            clear hA hva hi0 hp hn r3
            go_wp2_with (first | (go_at_call 40; refine (HN.out _).mono ?_; rintro e w' ⟨rfl, rfl⟩) | (go_at_call 41; refine (HI.out _).mono ?_; rintro e w' ⟨rfl, rfl⟩))
            go_ret
            exact ⟨by rw [HV.out]; rfl, HB.out⟩
        · by_cases hf : 0 < i ∧ onPath es[i].parent S = false
          · have HV := hid (HS.out.form hlt hn hp hf)
            have HL := hid (specLine B es _ i S wr hl40 hlt HS.out.chain HS.out.first hA)
            rw [hf.2] at HL
            obtain ⟨b, e2, rfl⟩ := hva.slice
            have hi0 := hf.1
            have r1 : ((i : Int) == 0) = false := beq_eq_false_iff_ne.2 (by omega)
            have r2 : (0 : Int) < (i : Int) := by omega
            have HI := hid (fun w' => specIn es[i].parent 0 ((i : Int) - 1) w')
            have r3 : (decide (0 ≤ es[i].parent) && decide (es[i].parent ≤ (i : Int) - 1)) = true := by
              have : ¬ ¬ (0 ≤ es[i].parent ∧ es[i].parent < i) := fun e => hp (.inr ⟨hi0, e⟩)
              simp; omega
            rw [r3] at HI
            clear hA hva hi0 hp hn r3 hf
            go_wp2_with (first | (go_at_call 40; refine (HN.out _).mono ?_; rintro e w' ⟨rfl, rfl⟩) | (go_at_call 41; refine (HI.out _).mono ?_; rintro e w' ⟨rfl, rfl⟩) | (go_at_call 42; refine HL.out.mono ?_; rintro e w' ⟨rfl, rfl⟩))
            go_ret
            exact ⟨by rw [HV.out]; rfl, HB.out⟩
          · have hch := next_chain HS.out.chain HS.out.first hlt hp hf
            have hcl : (cutTo es[i].parent S).length ≤ 8 := Nat.le_trans cut_le HS.out.deep
            have HD : Hid (Calls Tryz.prog 43 #[.slice (some ⟨g, o, none⟩) es.length cap, .int .i64 (i : Int)] wr fun e w' => e = .returned (.int .i64 (((cutTo es[i].parent S).length : Int) + 1)) ∧ w' = wr) := hid (by
              have h := specDeep B es _ (i :: cutTo es[i].parent S) wr hl40 hch (by simp only [List.length_cons]; omega) hA
              have e1 : ((i :: cutTo es[i].parent S).length : Int) = ((cutTo es[i].parent S).length : Int) + 1 := by simp
              rw [e1] at h
              exact h)
            clear hch
            have H6 : Hid (8 < (cutTo es[i].parent S).length + 1 ∨ 6 < es[i].attrs.length → fault es = 2) := hid (fun hm => HS.out.many hlt hn hp hf hm)
            have H7 : Hid (¬ (8 < (cutTo es[i].parent S).length + 1 ∨ 6 < es[i].attrs.length) → acode es[i].attrs ≠ 0 → fault es = acode es[i].attrs) := hid (fun hm h => HS.out.attr hlt hn hp hf hm h)
            have H8 : Hid (¬ (8 < (cutTo es[i].parent S).length + 1 ∨ 6 < es[i].attrs.length) → acode es[i].attrs = 0 → Seen es (i + 1) (i :: cutTo es[i].parent S)) := hid (fun hm h => HS.out.next hlt hn hp hf hm h)
            obtain ⟨b, e2, rfl⟩ := hva.slice
            have HVA := hid hva
            have HLx : Hid (0 < i → Calls Tryz.prog 42 #[.slice (some ⟨g, o, none⟩) es.length cap, .int .i64 (i : Int)] wr fun e w' => e = .returned (.bool true) ∧ w' = wr) := hid (fun h0 => by
              have h := specLine B es _ i S wr hl40 hlt HS.out.chain HS.out.first hA
              cases hb : onPath es[i].parent S
              · exact absurd ⟨h0, hb⟩ hf
              · rw [hb] at h; exact h)
            have HIx : Hid (0 < i → ∀ w', Calls Tryz.prog 41 #[.int .i64 es[i].parent, .int .i64 0, .int .i64 ((i : Int) - 1)] w' fun e w1 => e = .returned (.bool true) ∧ w1 = w') := hid (fun h0 w' => by
              have h := specIn es[i].parent 0 ((i : Int) - 1) w'
              have r3 : (decide (0 ≤ es[i].parent) && decide (es[i].parent ≤ (i : Int) - 1)) = true := by
                have : ¬ ¬ (0 ≤ es[i].parent ∧ es[i].parent < i) := fun e => hp (.inr ⟨h0, e⟩)
                simp; omega
              rw [r3] at h
              exact h)
            have hp0 : i = 0 → (es[i].parent != -1) = false := fun h0 => by
              have : ¬ es[i].parent ≠ -1 := fun e => hp (.inl ⟨h0, e⟩)
              simp only [bne_eq_false_iff_eq]; omega
            have HP0 := hid hp0
            clear hp0 hA hva hp hf hn
            generalize (cutTo es[i].parent S).length = dp at *
            rcases Nat.eq_zero_or_pos i with hi0 | hi0
            · have r1 : ((i : Int) == 0) = true := beq_iff_eq.2 (by omega)
              have r2 := HP0.out hi0
              have r3 : ¬ (0 : Int) < (i : Int) := by omega
              clear HLx HIx HP0 hi0
              by_cases m1 : 8 < dp + 1
              · have HV := hid (H6.out (.inl m1))
                have t1 : (8 : Int) < (dp : Int) + 1 := by omega
                go_wp2_with (first | (go_at_call 40; refine (HN.out _).mono ?_; rintro e w' ⟨rfl, rfl⟩) | (go_at_call 43; refine HD.out.mono ?_; rintro e w' ⟨rfl, rfl⟩))
                go_ret
                exact ⟨by rw [HV.out]; rfl, HB.out⟩
              have t1 : ¬ (8 : Int) < (dp : Int) + 1 := by omega
              by_cases m2 : 6 < es[i].attrs.length
              · have HV := hid (H6.out (.inr m2))
                have t2 : (6 : Int) < (es[i].attrs.length : Int) := by omega
                go_wp2_with (first | (go_at_call 40; refine (HN.out _).mono ?_; rintro e w' ⟨rfl, rfl⟩) | (go_at_call 43; refine HD.out.mono ?_; rintro e w' ⟨rfl, rfl⟩))
                go_ret
                exact ⟨by rw [HV.out]; rfl, HB.out⟩
              have t2 : ¬ (6 : Int) < (es[i].attrs.length : Int) := by omega
              have HAT := hid (specAttrs B es[i].attrs _ wr (by omega) HKA.out HVA.out)
              by_cases ha : acode es[i].attrs = 0
              · have HV := hid (H8.out (by omega) ha)
                have t3 : (acode es[i].attrs != 0) = false := by simp [ha]
                rw [ha] at HAT
                go_wp2_with (first | (go_at_call 40; refine (HN.out _).mono ?_; rintro e w' ⟨rfl, rfl⟩) | (go_at_call 43; refine HD.out.mono ?_; rintro e w' ⟨rfl, rfl⟩) | (go_at_call 44; refine HAT.out.mono ?_; rintro e w' ⟨rfl, hb⟩))
                exact ⟨⟨i + 1, _, by simp, HV, by omega, hid (HB.out.trans (hb.mono HB.out.size))⟩, by simp [intOf]; omega⟩
              · have HV := hid (H7.out (by omega) ha)
                have t3 : (acode es[i].attrs != 0) = true := by simpa using ha
                go_wp2_with (first | (go_at_call 40; refine (HN.out _).mono ?_; rintro e w' ⟨rfl, rfl⟩) | (go_at_call 43; refine HD.out.mono ?_; rintro e w' ⟨rfl, rfl⟩) | (go_at_call 44; refine HAT.out.mono ?_; rintro e w' ⟨rfl, hb⟩))
                go_ret
                exact ⟨by rw [HV.out]; rfl, HB.out.trans (hb.mono HB.out.size)⟩
            · have r1 : ((i : Int) == 0) = false := beq_eq_false_iff_ne.2 (by omega)
              have r3 : (0 : Int) < (i : Int) := by omega
              have HI := hid (HIx.out hi0)
              have HL := hid (HLx.out hi0)
              clear HLx HIx HP0
              by_cases m1 : 8 < dp + 1
              · have HV := hid (H6.out (.inl m1))
                have t1 : (8 : Int) < (dp : Int) + 1 := by omega
                go_wp2_with (first | (go_at_call 40; refine (HN.out _).mono ?_; rintro e w' ⟨rfl, rfl⟩) | (go_at_call 43; refine HD.out.mono ?_; rintro e w' ⟨rfl, rfl⟩) | (go_at_call 41; refine (HI.out _).mono ?_; rintro e w' ⟨rfl, rfl⟩) | (go_at_call 42; refine HL.out.mono ?_; rintro e w' ⟨rfl, rfl⟩))
                go_ret
                exact ⟨by rw [HV.out]; rfl, HB.out⟩
              have t1 : ¬ (8 : Int) < (dp : Int) + 1 := by omega
              by_cases m2 : 6 < es[i].attrs.length
              · have HV := hid (H6.out (.inr m2))
                have t2 : (6 : Int) < (es[i].attrs.length : Int) := by omega
                go_wp2_with (first | (go_at_call 40; refine (HN.out _).mono ?_; rintro e w' ⟨rfl, rfl⟩) | (go_at_call 43; refine HD.out.mono ?_; rintro e w' ⟨rfl, rfl⟩) | (go_at_call 41; refine (HI.out _).mono ?_; rintro e w' ⟨rfl, rfl⟩) | (go_at_call 42; refine HL.out.mono ?_; rintro e w' ⟨rfl, rfl⟩))
                go_ret
                exact ⟨by rw [HV.out]; rfl, HB.out⟩
              have t2 : ¬ (6 : Int) < (es[i].attrs.length : Int) := by omega
              have HAT := hid (specAttrs B es[i].attrs _ wr (by omega) HKA.out HVA.out)
              by_cases ha : acode es[i].attrs = 0
              · have HV := hid (H8.out (by omega) ha)
                have t3 : (acode es[i].attrs != 0) = false := by simp [ha]
                rw [ha] at HAT
                go_wp2_with (first | (go_at_call 40; refine (HN.out _).mono ?_; rintro e w' ⟨rfl, rfl⟩) | (go_at_call 43; refine HD.out.mono ?_; rintro e w' ⟨rfl, rfl⟩) | (go_at_call 41; refine (HI.out _).mono ?_; rintro e w' ⟨rfl, rfl⟩) | (go_at_call 42; refine HL.out.mono ?_; rintro e w' ⟨rfl, rfl⟩) | (go_at_call 44; refine HAT.out.mono ?_; rintro e w' ⟨rfl, hb⟩))
                exact ⟨⟨i + 1, _, by simp, HV, by omega, hid (HB.out.trans (hb.mono HB.out.size))⟩, by simp [intOf]; omega⟩
              · have HV := hid (H7.out (by omega) ha)
                have t3 : (acode es[i].attrs != 0) = true := by simpa using ha
                go_wp2_with (first | (go_at_call 40; refine (HN.out _).mono ?_; rintro e w' ⟨rfl, rfl⟩) | (go_at_call 43; refine HD.out.mono ?_; rintro e w' ⟨rfl, rfl⟩) | (go_at_call 41; refine (HI.out _).mono ?_; rintro e w' ⟨rfl, rfl⟩) | (go_at_call 42; refine HL.out.mono ?_; rintro e w' ⟨rfl, rfl⟩) | (go_at_call 44; refine HAT.out.mono ?_; rintro e w' ⟨rfl, hb⟩))
                go_ret
                exact ⟨by rw [HV.out]; rfl, HB.out.trans (hb.mono HB.out.size)⟩
      · have b1 : (nf es[i].tag.data.toList != 0) = true := by simpa using hn
        have HV := hid (HS.out.name hlt hn)
        obtain ⟨b, e2, rfl⟩ := hva.slice
        clear hA hva hn
        go_wp2_with (go_at_call 40; refine (HN.out _).mono ?_; rintro e w' ⟨rfl, rfl⟩)
        go_ret
        exact ⟨by rw [HV.out]; rfl, HB.out⟩
    · have HV := hid (HS.out.done hlt)
      go_wp2
      go_ret
      exact ⟨by rw [HV.out]; rfl, HB.out⟩
end Tr
end Go.Proofs.YtgghigfflpbjiaaGreatDoor
/- What is wrong with attrs, as the program tells it. Condition: the table of entities lies as its initialiser lays it. -/
namespace Go.Proofs.YtgghigfflpbjiaaGreatDoor
open Go.RowKit
set_option linter.unusedVariables false
namespace Tr
set_option maxRecDepth 100000 in
set_option maxHeartbeats 1000000 in
theorem implPlace (B : Nat) (l : List AttrD) (v : Value) (nm : ByteArray) (w : World) (hl : l.length ≤ 1048576) (ha : AttrsAt w B v l) :
    Calls Tryz.prog 107 #[v, .string nm] w fun e w' => e = .returned (.int .i64 (attrIdx l nm)) ∧ Below w.heap.size w w' := by
  obtain ⟨a, cap, rfl⟩ := ha.slice
  have HA := hid ha
  clear ha
  go_enter Tryz.func107, Tryz.ntmps107
  go_wp2
  go_loopw [5, 6, 9] (fun _ _ i wr => ∃ k : Nat, k ≤ l.length ∧ i = .int .i64 k ∧ Hid (∀ j (h : j < l.length), j < k → (l[j].name.toList == nm.toList) = false) ∧ Below w.heap.size w wr) (fun _ _ i _ => l.length - (intOf i).toNat)
  case atStart => exact ⟨0, Nat.zero_le _, rfl, fun j _ h => by omega, Below.refl _ _⟩
  case round =>
    obtain ⟨k, hk, rfl, HJ, hbel⟩ := hrel
    by_cases hlt : k < l.length
    · obtain ⟨g, o, rfl, hg, c0, c1⟩ := (HA.out.below hbel).at hlt
      have q1 : (k : Int) < (l.length : Int) := by omega
      cases hE : (l[k].name.toList == nm.toList)
      · have HJ2 : Hid (∀ j (h : j < l.length), j < k + 1 → (l[j].name.toList == nm.toList) = false) := hid (fun j h hj => by
          by_cases e : j = k
          · subst e; exact hE
          · exact HJ.out j h (by omega))
        go_wp2
        exact ⟨⟨k + 1, by omega, by simp, HJ2, hbel.alloc hbel.size _⟩, by simp [intOf]; omega⟩
      · have HV : Hid (attrIdx l nm = k) := idx_found hlt hE HJ.out
        go_wp2
        go_ret
        exact ⟨by rw [HV.out]; rfl, hbel.alloc hbel.size _⟩
    · have HV : Hid (attrIdx l nm = -1) := idx_none (fun j hj => HJ.out j hj (by omega))
      go_wp2
      go_ret
      exact ⟨by rw [HV.out]; rfl, hbel⟩
theorem fld0 (c : Int) (t : ByteArray) (w : World) : Sem.run Tryz.prog (Instr.field 36 (.agg #[.int .i64 c, .string t]) 0) w = .ok (.int .i64 c) w := by kernel_rfl
theorem escVal_code (l : List UInt8) : ∃ t, Esc.escVal l = .agg #[.int .i64 (Esc.vcode l), .string t] := ⟨_, rfl⟩
def acodeI (l : List AttrD) : Int := if 6 < l.length then 2 else acode l
set_option maxRecDepth 100000 in
set_option maxHeartbeats 4000000 in
theorem implAttrsFault (B : Nat) (l : List AttrD) (v : Value) (w : World) (hk : OkA l) (hl : l.length ≤ 1048576) (ha : AttrsAt w B v l) (he : Esc.Ent w) (hw : 2 < w.heap.size) :
    Calls Tryz.prog 83 #[v] w fun e w' => e = .returned (.int .i64 (acodeI l)) ∧ Below w.heap.size w w' := by
  obtain ⟨a, cap, rfl⟩ := ha.slice
  have HA := hid ha
  have HK := hid hk
  have HE := hid he
  clear ha hk he
  by_cases h6 : 6 < l.length
  · have HV : Hid (acodeI l = 2) := hid (if_pos h6)
    have q : (6 : Int) < (l.length : Int) := by omega
    clear h6
    go_enter Tryz.func83, Tryz.ntmps83
    go_wp2
    go_ret
    exact ⟨by rw [HV.out]; rfl, Below.refl _ _⟩
  have HW : Hid (acodeI l = acode l) := hid (if_neg h6)
  have q : ¬ (6 : Int) < (l.length : Int) := by omega
  go_enter Tryz.func83, Tryz.ntmps83
  go_wp2
  go_loopw [3, 4, 5, 6, 12] (fun _ _ _ _ i wr => ∃ k : Nat, i = .int .i64 k ∧ Hid (SeenA l k) ∧ k ≤ l.length ∧ Hid (Below w.heap.size w wr)) (fun _ _ _ _ i _ => l.length - (intOf i).toNat)
  case atStart => exact ⟨0, rfl, SeenA.start l, Nat.zero_le _, Below.refl _ _⟩
  case round =>
    obtain ⟨k, rfl, HS, hkl, HB⟩ := hrel
    by_cases hlt : k < l.length
    · have hA := HA.out.below HB.out
      obtain ⟨g, o, rfl, hg, c0, c1⟩ := hA.at hlt
      have hcap := hA.cap.1
      have hcap2 := hA.cap.2
      unfold maxLen at hcap2
      have hB0 : Below wr.heap.size wr (wr.alloc (.cells #[.string l[k].name, .string l[k].value] 68)) := (Below.refl _ wr).alloc (Nat.le_refl _) _
      have HT := hid (fun w' (hb : Below wr.heap.size wr w') => implPlace B (l.take k) (.slice (some ⟨g, o, none⟩) k cap) l[k].name w' (by rw [List.length_take]; omega) ((hA.take hkl).below hb))
      have hZ := HB.out.size
      have HEW := hid (Esc.Ent.below HE.out HB.out hw)
      clear hA
      have q1 : (k : Int) < (l.length : Int) := by omega
      have hkk := HK.out l[k] (List.getElem_mem hlt)
      have h1 := hkk.1
      have h2 := hkk.2
      clear hkk
      have HN := hid (fun w' => impl_nf l[k].name w' h1)
      have HX := hid (fun w' (hb : Below wr.heap.size wr w') => Esc.implEsc l[k].value w' h2 (Esc.Ent.below HEW.out hb (by omega)) (by have := hb.size; omega))
      by_cases hn : nf l[k].name.data.toList = 0
      · have b1 : (nf l[k].name.data.toList != 0) = false := by simp [hn]
        have hix := idx_has (l.take k) l[k].name
        have hlo := idx_lo (l.take k) l[k].name
        generalize attrIdx (l.take k) l[k].name = ix at *
        by_cases hx : 0 ≤ ix
        · have HV : Hid (acode l = 6) := hid (HS.out.taken hlt hn (by rw [hix]; simpa using hx))
          have b2 : (ix != -1) = true := bne_iff_ne.2 (by omega)
          clear hn hix
          go_wp2_with (go_at_call 81; refine (HN.out _).mono ?_; rintro e w' ⟨rfl, rfl⟩)
          go_region_with ((go_at_call 107; refine (HT.out _ ?_).mono ?_; exact hB0.drew; rintro e w1 ⟨rfl, hb1⟩; have hbb : Below wr.heap.size wr w1 := (hB0.drew).trans (hb1.mono (by simp))))
          all_goals go_wp2
          all_goals go_ret
          all_goals exact ⟨by rw [HW.out, HV.out]; rfl, HB.out.trans (hbb.mono hZ)⟩
        · have b2 : (ix != -1) = false := by
            have : ix = -1 := by omega
            simp [this]
          by_cases hv : vcode l[k].value.data.toList = 0
          · have HV : Hid (SeenA l (k + 1)) := hid (HS.out.next hlt hn (by rw [hix]; simpa using hx) hv)
            have b3 : (Esc.vcode l[k].value.data.toList != 0) = false := by rw [← vcode_same]; simp [hv]
            clear hn hix hv
            go_wp2_with (go_at_call 81; refine (HN.out _).mono ?_; rintro e w' ⟨rfl, rfl⟩)
            go_region_with ((go_at_call 107; refine (HT.out _ ?_).mono ?_; exact hB0.drew; rintro e w1 ⟨rfl, hb1⟩; have hbb : Below wr.heap.size wr w1 := (hB0.drew).trans (hb1.mono (by simp)); have d1 : w1.cell? ⟨wr.heap.size, 1, none⟩ = some (.string l[k].value) := (hb1.cell (p := ⟨wr.heap.size, 1, none⟩) (by simp)).trans (by simp)))
            all_goals go_wp2_with (go_at_call 108; refine (HX.out _ hbb).mono ?_; rintro e w2 ⟨rfl, hb2⟩; obtain ⟨tx, htx⟩ := escVal_code l[k].value.data.toList; rw [htx]; have hfl := fld0 (Esc.vcode l[k].value.data.toList) tx)
            all_goals exact ⟨⟨k + 1, by simp, HV, by omega, hid (HB.out.trans ((hbb.trans (hb2.mono hbb.size)).mono hZ))⟩, by simp [intOf]; omega⟩
          · have HV : Hid (acode l = Esc.vcode l[k].value.data.toList) := hid (HS.out.value hlt hn (by rw [hix]; simpa using hx) hv)
            have b3 : (Esc.vcode l[k].value.data.toList != 0) = true := by rw [← vcode_same]; simpa using hv
            clear hn hix hv
            go_wp2_with (go_at_call 81; refine (HN.out _).mono ?_; rintro e w' ⟨rfl, rfl⟩)
            go_region_with ((go_at_call 107; refine (HT.out _ ?_).mono ?_; exact hB0.drew; rintro e w1 ⟨rfl, hb1⟩; have hbb : Below wr.heap.size wr w1 := (hB0.drew).trans (hb1.mono (by simp)); have d1 : w1.cell? ⟨wr.heap.size, 1, none⟩ = some (.string l[k].value) := (hb1.cell (p := ⟨wr.heap.size, 1, none⟩) (by simp)).trans (by simp)))
            all_goals go_wp2_with (go_at_call 108; refine (HX.out _ hbb).mono ?_; rintro e w2 ⟨rfl, hb2⟩; obtain ⟨tx, htx⟩ := escVal_code l[k].value.data.toList; rw [htx]; have hfl := fld0 (Esc.vcode l[k].value.data.toList) tx)
            all_goals go_ret
            all_goals exact ⟨by rw [HW.out, HV.out]; rfl, HB.out.trans ((hbb.trans (hb2.mono hbb.size)).mono hZ)⟩
      · have b1 : (nf l[k].name.data.toList != 0) = true := by simpa using hn
        have HV : Hid (acode l = nf l[k].name.data.toList) := hid (HS.out.name hlt hn)
        clear hn
        go_wp2_with (go_at_call 81; refine (HN.out _).mono ?_; rintro e w' ⟨rfl, rfl⟩)
        go_ret
        exact ⟨by rw [HW.out, HV.out]; rfl, HB.out.alloc hZ _⟩
    · have HV : Hid (acode l = 0) := hid (HS.out.done hlt)
      go_wp2
      go_ret
      exact ⟨by rw [HW.out, HV.out]; rfl, HB.out⟩
end Tr
end Go.Proofs.YtgghigfflpbjiaaGreatDoor
