/- The program's IsPlain. Condition: the table of rules lies as its initialiser lays it. -/
import Derived.Test.YtedgobdnjemegaaDoorJIsPlain11
import Derived.WalkMore
import Derived.Deep.LoopGhost
namespace Go.Proofs.YtedgobdnjemegaaDoor
open Go.RowKit Go.Deep
set_option linter.unusedVariables false
namespace Bk
open Ex (hid)
open Nd (NodeD)
open St (StepD)
open Nst (own flat)
open So (SOwn)
open Pf (PJ PJ_eq kidsL pFault PAt of_p Rul procSteps path)
open Pl
def plainP (ss : List StepD) : Prop := pFault ss = 0 ∧ ∀ k, k < ss.length → ¬ bad ss k
set_option maxRecDepth 100000 in
set_option maxHeartbeats 4000000 in
theorem implIsPlain (ss : List StepD) (v : Value) (w : World) (hsm : St.Small 1048576 ss) (ha : St.At w 0 v ss) (hr : Rul w) :
    Calls Tryd.prog 15 #[v] w fun e w' => (∃ b : Bool, e = .returned (.bool b) ∧ (b = true ↔ plainP ss)) ∧ Below w.heap.size w w' := by
  have HC := hid (procSteps ss v w hsm ha hr)
  obtain ⟨a, cap, rfl⟩ := ha.slice
  clear ha hsm hr
  go_enter Tryd.func15, Tryd.ntmps15
  go_wp2
  go_step3
  go_wp2_with fail
  refine HC.out.mono ?_
  rintro e w1 ⟨⟨u, rfl, hu1, hu2⟩, hb1⟩
  have HB1 := hid hb1
  by_cases hf : pFault ss = 0
  · have hP := hu2 hf
    have hlen : ss.length ≤ 24 := by have := of_p hf; omega
    have HPF := hid hf
    have HPA := hid hP
    obtain ⟨gs, cu, rfl, hgs, _⟩ := hP
    rw [hf]
    clear hu1 hu2 HC hf hb1
    go_wp2
    go_step3
    go_wp2
    go_loopg [5, 19] ss.length (fun g pl i wx => ∃ (j : Nat), j + g = ss.length ∧ i = .int .i64 j ∧ pl = .bool true ∧ Hid (∀ k, k < j → ¬ bad ss k) ∧ Hid (Below w1.heap.size w1 wx))
    case atStart => exact ⟨0, by omega, rfl, rfl, hid (fun k hk => by omega), hid (Below.refl _ _)⟩
    case round =>
      obtain ⟨j, hjl, rfl, rfl, HJ, HB⟩ := hrel
      obtain ⟨ww, hww⟩ : ∃ ww, ww = wr := ⟨_, rfl⟩
      subst hww
      by_cases hlt : j < ss.length
      · obtain ⟨go, rfl⟩ : ∃ go, gk = go + 1 := ⟨gk - 1, by omega⟩
        have q1 : (j : Int) < (ss.length : Int) := by omega
        obtain ⟨g', cu', e', _, hc⟩ := HPA.out.below HB.out
        cases e'
        obtain ⟨kv, vc, ve, c0, c1, c2, c3, c4, c5, c6, c7, c8, hp⟩ := hc j hlt
        have HKC : Hid (∀ i (hi : i < ss.length), ww.cell? ⟨gs, i * 9 + 3, none⟩ = some (.int .i64 ss[i].kind)) := hid (fun i hi => by
          obtain ⟨_, _, _, _, _, _, h3, _⟩ := hc i hi
          exact h3)
        obtain ⟨ak, ck, rfl⟩ := hp.kids.slice
        obtain ⟨ac, cc, rfl⟩ := hp.cond.slice
        obtain ⟨ae, ce, rfl⟩ := hp.expr.slice
        have HKI := hid hp.kids
        have zg : gs < ww.heap.size := by have := HB.out.size; omega
        have HKL := hid (kids_le hlen j)
        clear hc hp
        obtain ⟨wo, hwo⟩ : ∃ wo, wo = ww.alloc (.cells #[.int .i64 (j : Int), .int .i64 ((path ss (j + 1)).length : Int), .slice ak (kidsL ss j).length ck, .int .i64 ss[j].kind, .int .i64 ss[j].parent, .string ss[j].name, .int .i64 ss[j].arg, .slice ac ss[j].cond.length cc, .slice ae ss[j].expr.length ce] 60) := ⟨_, rfl⟩
        have hbo : Below ww.heap.size ww wo := by rw [hwo]; exact (Below.refl _ ww).alloc (Nat.le_refl _) _
        have hxo : wo.heap[ww.heap.size]? = some (.cells #[.int .i64 (j : Int), .int .i64 ((path ss (j + 1)).length : Int), .slice ak (kidsL ss j).length ck, .int .i64 ss[j].kind, .int .i64 ss[j].parent, .string ss[j].name, .int .i64 ss[j].arg, .slice ac ss[j].cond.length cc, .slice ae ss[j].expr.length ce] 60) := by rw [hwo]; exact heap_new ww _
        have HBO := hid hbo
        have HXO := hid hxo
        have hkl := HKL.out
        clear hbo hxo
        generalize hks : kidsL ss j = ks at *
        have HKS := hid hks
        clear hks
        go_wp2
        rw [← hwo]
        clear hwo c0 c1 c2 c3 c4 c5 c6 c7 c8
        go_loopg [5, 27] ks.length (fun g pl i wx => ∃ (m : Nat), m + g = ks.length ∧ i = .int .i64 m ∧ pl = .bool true ∧ Hid (∀ x (hx : x < ks.length), x < m → ¬ ((PJ ss j).kind = 1 ∧ (ks.length = 1 ∨ (PJ ss ks[x]).kind = 1))) ∧ Hid (Below wo.heap.size wo wx))
        case atStart => exact ⟨0, by omega, rfl, rfl, hid (fun x hx hl => by omega), hid (Below.refl _ _)⟩
        case round =>
          obtain ⟨m, hmg, rfl, rfl, HM, HBM⟩ := hrel
          have lo := HBO.out.size
          have lm := HBM.out.size
          have HBR := hid (HB1.out.trans ((HB.out.trans ((HBO.out.mono HB.out.size).trans (HBM.out.mono (by have := HB.out.size; omega)))).mono HB1.out.size))
          have HBX := hid (HBO.out.trans (HBM.out.mono lo))
          have zo : ww.heap.size < wo.heap.size := by
            rcases Nat.lt_or_ge ww.heap.size wo.heap.size with h | h
            · exact h
            · have := HXO.out; rw [Array.getElem?_eq_none h] at this; cases this
          have hxr := (HBM.out.block _ zo).trans HXO.out
          have x2 : wr.cell? ⟨ww.heap.size, 2, none⟩ = some (.slice ak ks.length ck) := bcell hxr 2
          have x3 : wr.cell? ⟨ww.heap.size, 3, none⟩ = some (.int .i64 ss[j].kind) := bcell hxr 3
          have zw : ww.heap.size < wr.heap.size := by omega
          clear hxr
          by_cases hmt : m < ks.length
          · obtain ⟨g1, rfl⟩ : ∃ g1, gk = g1 + 1 := ⟨gk - 1, by omega⟩
            have q2 : (m : Int) < (ks.length : Int) := by omega
            obtain ⟨bk, cap, e1, hbk, _, _, hcs⟩ := kids_at HKI.out (by omega)
            obtain ⟨rfl, rfl⟩ : ak = some ⟨bk, 0, none⟩ ∧ ck = cap := by simpa using e1
            have d0 : wr.cell? ⟨bk, m, none⟩ = some (.int .i64 (ks[m] : Int)) := (HBX.out.cell (p := ⟨bk, m, none⟩) hbk).trans (hcs m hmt)
            have zb : bk < wr.heap.size := by omega
            have hkm : ks[m] < ss.length ∧ True := by
              refine ⟨(kid_mem (k := j) ?_).1, trivial⟩
              rw [HKS.out]
              exact List.getElem_mem hmt
            have d1 : wr.cell? ⟨gs, ks[m] * 9 + 3, none⟩ = some (.int .i64 ss[ks[m]].kind) := (HBX.out.cell (p := ⟨gs, ks[m] * 9 + 3, none⟩) zg).trans (HKC.out _ hkm.1)
            have q3 : (ks[m] : Int) < (ss.length : Int) := by have := hkm.1; omega
            have zg2 : gs < wr.heap.size := by omega
            have HBD : Hid (ss[j].kind = 1 ∧ (ks.length = 1 ∨ ss[ks[m]].kind = 1) → ¬ plainP ss) := hid (fun ⟨h1, h2⟩ hp => hp.2 j hlt ⟨by rw [PJ_eq hlt]; exact h1, by
              rw [HKS.out]
              rcases h2 with h2 | h2
              · exact .inl h2
              · exact .inr ⟨ks[m], List.getElem_mem hmt, by rw [PJ_eq hkm.1]; exact h2⟩⟩)
            have HNX : Hid (¬ (ss[j].kind = 1 ∧ (ks.length = 1 ∨ ss[ks[m]].kind = 1)) → ∀ x (hx : x < ks.length), x < m + 1 → ¬ ((PJ ss j).kind = 1 ∧ (ks.length = 1 ∨ (PJ ss ks[x]).kind = 1))) := hid (fun hn x hx hxm => by
              by_cases e : x = m
              · subst e; rw [PJ_eq hlt, PJ_eq hkm.1]; exact hn
              · exact HM.out x hx (by omega))
            clear e1 hcs
            generalize ss[ks[m]].kind = k2 at *
            clear hkm
            generalize ks[m] = im at *
            generalize ss[j].kind = k1 at *
            by_cases h1 : k1 = 1
            · have b1 : (k1 == 1) = true := by simp [h1]
              by_cases h2 : ks.length = 1
              · have b2 : ((ks.length : Int) == 1) = true := by simp [h2]
                have HNP := hid (HBD.out ⟨h1, .inl h2⟩)
                clear h1 h2
                go_wp2
                try rw [Exit.noGoto_ret]
                go_ret
                exact ⟨⟨false, rfl, by simp [HNP.out]⟩, HBR.out⟩
              · have b2 : ((ks.length : Int) == 1) = false := by simp; omega
                by_cases h3 : k2 = 1
                · have b3 : (k2 == 1) = true := by simp [h3]
                  have HNP := hid (HBD.out ⟨h1, .inr h3⟩)
                  clear h1 h2 h3
                  go_wp2
                  try rw [Exit.noGoto_ret]
                  go_ret
                  exact ⟨⟨false, rfl, by simp [HNP.out]⟩, HBR.out⟩
                · have b3 : (k2 == 1) = false := by simp [h3]
                  have HM2 := hid (HNX.out (fun ⟨_, h⟩ => by rcases h with h | h; exact h2 h; exact h3 h))
                  clear h1 h2 h3
                  go_wp2
                  go_roundg g1
                  case measure => omega
                  case rel => exact ⟨m + 1, by omega, by simp, rfl, HM2, HBM⟩
            · have b1 : (k1 == 1) = false := by simp [h1]
              have HM2 := hid (HNX.out (fun ⟨h, _⟩ => h1 h))
              clear h1
              go_wp2
              go_roundg g1
              case measure => omega
              case rel => exact ⟨m + 1, by omega, by simp, rfl, HM2, HBM⟩
          · have q2 : ¬ (m : Int) < (ks.length : Int) := by omega
            have HJ2 : Hid (∀ k, k < j + 1 → ¬ bad ss k) := hid (fun k hk => by
              by_cases e : k = j
              · subst e
                rintro ⟨h1, h2⟩
                rw [HKS.out] at h2
                rcases h2 with h2 | ⟨x, hx, h2⟩
                · exact HM.out 0 (by omega) (by omega) ⟨h1, .inl h2⟩
                · obtain ⟨i, hi, rfl⟩ := List.getElem_of_mem hx
                  exact HM.out i hi (by omega) ⟨h1, .inr h2⟩
              · exact HJ.out k (by omega))
            have HBN := hid (HB.out.trans ((HBO.out.mono HB.out.size).trans (HBM.out.mono (by have := HB.out.size; omega))))
            go_wp2
            go_roundg go
            case measure => omega
            case rel => exact ⟨j + 1, by omega, by simp, rfl, HJ2, HBN⟩
      · have q1 : ¬ (j : Int) < (ss.length : Int) := by omega
        have HPP : Hid (plainP ss) := hid ⟨HPF.out, fun k hk => HJ.out k (by omega)⟩
        go_wp2
        try rw [Exit.noGoto_ret]
        go_ret
        exact ⟨⟨true, rfl, by simp [HPP.out]⟩, HB1.out.trans (HB.out.mono HB1.out.size)⟩
  · have b1 : (pFault ss == 0) = false := by simp [hf]
    obtain rfl := hu1 hf
    have HN : Hid (¬ plainP ss) := hid (fun h => hf h.1)
    have HBV : Hid ((pFault ss == 0) = false) := hid b1
    clear hu1 hu2 HC hf hb1
    go_wp2
    go_step3
    go_wp2
    go_loopw [5, 19] (fun p i wr => p = .bool false ∧ i = .int .i64 0 ∧ Hid (Below w1.heap.size w1 wr)) (fun _ _ _ => 0)
    case atStart => exact ⟨by first | rfl | rw [b1], rfl, hid (Below.refl _ _)⟩
    case round =>
      obtain ⟨rfl, rfl, HB⟩ := hrel
      go_wp2
      try rw [Exit.noGoto_ret]
      go_ret
      exact ⟨⟨false, rfl, by simp [HN.out]⟩, HB1.out.trans (HB.out.mono HB1.out.size)⟩
end Bk
end Go.Proofs.YtedgobdnjemegaaDoor
