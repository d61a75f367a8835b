/- The law's marks in elements that a function has made itself, and whether they hold. -/
import Derived.Test.YtgghigfflpbjiaaGreatDoorTfA
import Derived.Test.YtgghigfflpbjiaaGreatDoorMkT
import Derived.Test.YtgghigfflpbjiaaGreatDoorStM
namespace Go.Proofs.YtgghigfflpbjiaaGreatDoor
open Go.RowKit
set_option linter.unusedVariables false
namespace Tf
open Ex (hid)
open Tr (AttrD ElemD AttrsAt ElemsAt)
open Nst (own)
open St (Amid)
open Mk (mt markText')
def AJ (l : List AttrD) (i : Nat) : AttrD := l[i]?.getD ⟨ByteArray.empty, ByteArray.empty⟩
theorem AJ_eq {l : List AttrD} {i : Nat} (h : i < l.length) : AJ l i = l[i] := by unfold AJ; rw [List.getElem?_eq_getElem h, Option.getD_some]
theorem avals_flat : ∀ (l : List AttrD), Nst.flat (fun i => aval (AJ l i)) l.length = avals l := by
  intro l
  have h : ∀ n, n ≤ l.length → Nst.flat (fun i => aval (AJ l i)) n = avals (l.take n) := by
    intro n
    induction n with
    | zero => intro _; rfl
    | succ n ih =>
      intro hn
      rw [Nst.flat_succ, ih (by omega), AJ_eq (by omega), ← List.take_append_getElem (by omega), avals_snoc]
  rw [h l.length (Nat.le_refl _), List.take_length]
/-- The marks of attrs: from k on. -/
def mkA (k m : Nat) : List AttrD := (List.range m).map fun i => ⟨mt (k + 2 * i), mt (k + 2 * i + 1)⟩
theorem mkA_len (k m : Nat) : (mkA k m).length = m := by simp [mkA]
theorem mkA_get (k m i : Nat) (h : i < (mkA k m).length) : (mkA k m)[i] = ⟨mt (k + 2 * i), mt (k + 2 * i + 1)⟩ := by simp [mkA]
theorem mkA_J {k m i : Nat} (h : i < m) : AJ (mkA k m) i = ⟨mt (k + 2 * i), mt (k + 2 * i + 1)⟩ := by
  rw [AJ_eq (by rw [mkA_len]; exact h), mkA_get]
theorem grown_trans {w w1 w2 : World} {row : Option Nat} (h : w.grownBy w1 row) (h2 : w1.grownBy w2 row) : w.grownBy w2 row :=
  ⟨h2.os.trans h.os, h2.tape.trans h.tape, h2.output.trans h.output, Nat.le_trans h.size h2.size, fun k hk hr => (h2.block k (Nat.lt_of_lt_of_le hk h.size) hr).trans (h.block k hk hr)⟩
theorem grown_below {w w1 : World} {row : Option Nat} (h : Below w.heap.size w w1) : w.grownBy w1 row := ⟨h.os, h.tape, h.output, h.size, fun k hk _ => h.block k hk⟩
theorem grown_set (w : World) (g i : Nat) (u : Value) : w.grownBy (w.setCell ⟨g, i, none⟩ u) (some g) :=
  ⟨rfl, rfl, rfl, by simp [World.setCell], fun k hk hr => Below.heap_setCell _ _ _ _ (fun e => hr (by rw [e]))⟩
abbrev Z0 : Nat → Nst.Sub := fun _ => ⟨0, 0, .slice none 0 0, 0, []⟩
abbrev mcell (k : Nat) (c : Nat → List Value) (j : Nat) : Nat → List Value := fun x => if x < j then [.string (mt (k + 2 * x)), .string (mt (k + 2 * x + 1))] else c x
set_option maxRecDepth 100000 in
set_option maxHeartbeats 4000000 in
theorem markAttrs (B g cap n k : Nat) (c : Nat → List Value) (w : World) (hn : n ≤ 1048576) (h0 : 0 < k) (hk : k ≤ 17592186044416) (hc : ∀ j, j < n → (c j).length = 2) (h : Nst.At w B 68 2 (.slice (some ⟨g, 0, none⟩) n cap) n c 0 Z0) :
    Calls Tryz.prog 53 #[.slice (some ⟨g, 0, none⟩) n cap, .int .i64 (k : Int)] w fun e w' => e = .returned (.int .i64 ((k + 2 * n : Nat) : Int)) ∧ Nst.At w' B 68 2 (.slice (some ⟨g, 0, none⟩) n cap) n (mcell k c n) 0 Z0 ∧ w.grownBy w' (some g) := by
  have H0 : Hid (Nst.At w B 68 2 (.slice (some ⟨g, 0, none⟩) n cap) n (mcell k c 0) 0 Z0) := hid (h.congr (fun j hj => by simp [mcell]) (fun i hi => rfl))
  have HC := hid hc
  clear h hc
  go_enter Tryz.func53, Tryz.ntmps53
  go_wp2
  go_loopw [1, 5] (fun q i wr => ∃ (j : Nat), i = .int .i64 j ∧ q = .int .i64 ((k + 2 * j : Nat) : Int) ∧ j ≤ n ∧ Hid (Nst.At wr B 68 2 (.slice (some ⟨g, 0, none⟩) n cap) n (mcell k c j) 0 Z0) ∧ Hid (w.grownBy wr (some g))) (fun _ i _ => n - (intOf i).toNat)
  case atStart => exact ⟨0, rfl, by simp, Nat.zero_le _, H0, hid (grown_below (Below.refl _ _))⟩
  case round =>
    obtain ⟨j, rfl, rfl, hj, HW, HG⟩ := hrel
    by_cases hlt : j < n
    · have q1 : (j : Int) < (n : Int) := by omega
      have hml : ∀ x, x < n → (mcell k c j x).length = 2 := fun x hx => by unfold mcell; split; rfl; exact HC.out x hx
      have HML := hid hml
      have e1 : ((k : Int) + 2 * (j : Int)).toNat = k + 2 * j := by omega
      have e2 : ((k : Int) + 2 * (j : Int) + 1).toNat = k + 2 * j + 1 := by omega
      have E1 := hid e1
      have E2 := hid e2
      clear hml e1 e2
      go_wp2_with fail
      refine (markText' _ _ (by omega) (by omega)).mono ?_
      rintro e w1 ⟨rfl, hb1⟩
      rw [E1.out]
      have hr1 := HW.out.below hb1
      have c0 : ∃ u, w1.cell? ⟨g, j * 2, none⟩ = some u := by
        have h1 := hr1.cell HML.out hlt (i := 0) (by omega)
        rw [List.getElem?_eq_getElem (by rw [HML.out j hlt]; omega)] at h1
        exact ⟨_, h1⟩
      obtain ⟨u0, c0⟩ := c0
      have z0 := hr1.free (j * 2)
      have HR2 := hid (hr1.setRow HML.out hlt (i := 0) (by omega) (.string (mt (k + 2 * j))))
      have HG2 := hid (grown_trans HG.out (grown_trans (grown_below hb1) (grown_set w1 g (j * 2) (.string (mt (k + 2 * j))))))
      have hgl := (Nst.own_lt hr1.row (b := g) rfl).2
      clear hr1
      go_wp2_with fail
      generalize w1.setCell ⟨g, j * 2, none⟩ (.string (mt (k + 2 * j))) = w1s at *
      refine (markText' _ _ (by omega) (by omega)).mono ?_
      rintro e w2 ⟨rfl, hb2⟩
      rw [E2.out]
      have HR2' : Hid (Nst.At w1s B 68 2 (.slice (some ⟨g, 0, none⟩) n cap) n (fun x => if x = j then (mcell k c j j).set 0 (.string (mt (k + 2 * j))) else mcell k c j x) 0 Z0) := HR2
      have hml2 : ∀ x, x < n → ((fun x => if x = j then (mcell k c j j).set 0 (.string (mt (k + 2 * j))) else mcell k c j x) x).length = 2 := fun x hx => by
        by_cases e : x = j
        · simp only [e, if_true, List.length_set]; exact HML.out j hlt
        · simp only [e, if_false]; exact HML.out x hx
      have hr2 := HR2'.out.below hb2
      have c1 : ∃ u, w2.cell? ⟨g, j * 2 + 1, none⟩ = some u := by
        have h1 := hr2.cell hml2 hlt (i := 1) (by omega)
        rw [List.getElem?_eq_getElem (by rw [hml2 j hlt]; omega)] at h1
        exact ⟨_, h1⟩
      obtain ⟨u1, c1⟩ := c1
      have z1 := hr2.free (j * 2 + 1)
      have hr3 := hr2.setRow hml2 hlt (i := 1) (by omega) (.string (mt (k + 2 * j + 1)))
      have HR3 : Hid (Nst.At (w2.setCell ⟨g, j * 2 + 1, none⟩ (.string (mt (k + 2 * j + 1)))) B 68 2 (.slice (some ⟨g, 0, none⟩) n cap) n (mcell k c (j + 1)) 0 Z0) := hid (hr3.congr (fun x hx => by
        by_cases e : x = j
        · subst e
          have hl2 := HC.out x hlt
          have hx2 : ∃ p q, c x = [p, q] := by
            match c x, hl2 with
            | [p, q], _ => exact ⟨p, q, rfl⟩
          obtain ⟨p, q, hpq⟩ := hx2
          simp [mcell, hpq]
        · have e2 : (x < j + 1) = (x < j) := by simp only [eq_iff_iff]; omega
          simp only [mcell, e, if_false, e2]) (fun i hi => rfl))
      have HG3 := hid (grown_trans HG2.out (grown_trans (grown_below hb2) (grown_set w2 g (j * 2 + 1) (.string (mt (k + 2 * j + 1))))))
      have hgl2 := (Nst.own_lt hr2.row (b := g) rfl).2
      clear hr2 hr3 hml2 HR2'
      go_wp2
      exact ⟨⟨j + 1, by simp, by simp; omega, by omega, HR3, HG3⟩, by simp [intOf]; omega⟩
    · obtain rfl : j = n := by omega
      go_wp2
      go_ret
      exact ⟨rfl, HW.out, HG.out⟩
theorem mcell_flat (k : Nat) (c : Nat → List Value) (n : Nat) : Nst.flat (mcell k c n) n = avals (mkA k n) := by
  have h := avals_flat (mkA k n)
  rw [mkA_len] at h
  rw [← h]
  refine Nst.flat_congr (fun j hj => ?_)
  rw [mkA_J hj]
  simp [mcell, hj, aval]
/-- The marks of one row of attrs, whatever row it is. -/
theorem markAttrsO (B k : Nat) (l : List AttrD) (v : Value) (w : World) (hn : l.length ≤ 1048576) (h0 : 0 < k) (hk : k ≤ 17592186044416) (h : w.ownsRow B 68 2 v l.length (avals l)) :
    Calls Tryz.prog 53 #[v, .int .i64 (k : Int)] w fun e w' => e = .returned (.int .i64 ((k + 2 * l.length : Nat) : Int)) ∧ w'.ownsRow B 68 2 v l.length (avals (mkA k l.length)) ∧ w.grownBy w' v.ownBlock := by
  rcases Nat.eq_zero_or_pos l.length with e | e
  · have e2 : l = [] := List.eq_nil_of_length_eq_zero e
    subst e2
    obtain ⟨a, cap, rfl⟩ := Nst.own_slice h
    have H := hid h
    clear h
    go_enter Tryz.func53, Tryz.ntmps53
    go_wp2
    refine wp_loop_rounds 2 ?_
    rw [rounds_succ]
    go_wp2
    go_ret
    exact ⟨by simp, H.out, grown_below (Below.refl _ _)⟩
  · obtain ⟨g, cap, rfl, hB, hg, hc, hm⟩ := Nst.own_some h e
    have hA : Nst.At w B 68 2 (.slice (some ⟨g, 0, none⟩) l.length cap) l.length (fun i => aval (AJ l i)) 0 Z0 := ⟨by rw [avals_flat]; exact h, fun i hi => by omega, fun i j hi => by omega, fun i hi => by omega⟩
    refine (markAttrs B g cap l.length k _ w hn h0 hk (fun _ _ => rfl) hA).mono ?_
    rintro e w' ⟨h1, h2, h3⟩
    refine ⟨h1, ?_, h3⟩
    have := h2.row
    rw [mcell_flat] at this
    exact this
end Tf
end Go.Proofs.YtgghigfflpbjiaaGreatDoor
