/- What the program asks of a flow and of a graph. -/
import Derived.Test.YtepfkfhbkbkepaaDoorGiB
import Derived.Test.YtepfkfhbkbkepaaDoorGrA
namespace Go.Proofs.YtepfkfhbkbkepaaDoor
open Go.RowKit
set_option linter.unusedVariables false
namespace Gr
open Ex (hid inR)
open Nd (NodeD)
open Rc
open Gn (GNodeD)
open Fl (FlowD)
open Tr (nf)
def flowF (n : Nat) (f : FlowD) (ahead : Int) : Int := if inR f.src 0 ((n : Int) - 1) = false ∨ inR f.dst 0 ((n : Int) - 1) = false then 3 else if (16 : Int) < f.cond.length then 2 else if f.src < ahead then 1 else 0
def aheadOf (fl : List FlowD) (i : Nat) : Int := if i = 0 then 0 else (FJ fl (i - 1)).src
theorem flowF_eq (g : GraphD) {i : Nat} : flowF g.nodes.length (FJ g.flows i) (aheadOf g.flows i) = flowC g i := by
  unfold flowF flowC aheadOf
  split
  · rfl
  · rename_i h
    split
    · rfl
    · by_cases h0 : i = 0
      · subst h0
        have : inR (FJ g.flows 0).src 0 ((g.nodes.length : Int) - 1) = true := by
          cases e : inR (FJ g.flows 0).src 0 ((g.nodes.length : Int) - 1)
          · exact absurd (.inl e) h
          · rfl
        have := Ex.inR_iff.1 this
        simp
        omega
      · rw [if_neg h0]
        have : 0 < i := by omega
        simp [this]
theorem ahead_zero (fl : List FlowD) : aheadOf fl 0 = 0 := rfl
theorem ahead_succ (fl : List FlowD) (i : Nat) : aheadOf fl (i + 1) = (FJ fl i).src := by unfold aheadOf; simp
set_option maxRecDepth 100000 in
set_option maxHeartbeats 1000000 in
theorem hasNode (n : Nat) (a : Option Addr) (cap : Nat) (vf : Value) (k : Int) (w : World) (hn : n ≤ 1048576) :
    Calls Tryd.prog 44 #[.agg #[.slice a n cap, vf], .int .i64 k] w fun e w' => e = .returned (.bool (inR k 0 ((n : Int) - 1))) ∧ Below w.heap.size w w' := by
  have HB : Hid (Below w.heap.size w (w.alloc (.cells #[.slice a n cap, vf] 33))) := hid ((Below.refl _ w).alloc (Nat.le_refl _) _)
  by_cases h1 : 0 ≤ k
  · by_cases h2 : k < (n : Int)
    · have HV := hid (Ex.inR_iff.2 (show 0 ≤ k ∧ k ≤ (n : Int) - 1 by omega))
      go_enter Tryd.func44, Tryd.ntmps44
      go_wp2
      go_ret
      exact ⟨by rw [HV.out]; simp [*], HB.out⟩
    · have HV := hid (Ex.inR_not.2 (show ¬ (0 ≤ k ∧ k ≤ (n : Int) - 1) by omega))
      go_enter Tryd.func44, Tryd.ntmps44
      go_wp2
      go_ret
      exact ⟨by rw [HV.out]; simp [*], HB.out⟩
  · have HV := hid (Ex.inR_not.2 (show ¬ (0 ≤ k ∧ k ≤ (n : Int) - 1) by omega))
    go_enter Tryd.func44, Tryd.ntmps44
    go_wp2
    go_ret
    exact ⟨by rw [HV.out]; simp [*], HB.out⟩
theorem ff_range {n : Nat} {f : FlowD} {k : Int} (h : inR f.src 0 ((n : Int) - 1) = false ∨ inR f.dst 0 ((n : Int) - 1) = false) : flowF n f k = 3 := by unfold flowF; rw [if_pos h]
theorem ff_rest {n : Nat} {f : FlowD} {k : Int} (h1 : inR f.src 0 ((n : Int) - 1) = true) (h2 : inR f.dst 0 ((n : Int) - 1) = true) : flowF n f k = if (16 : Int) < f.cond.length then 2 else if f.src < k then 1 else 0 := by unfold flowF; rw [if_neg (by simp [h1, h2])]
set_option maxRecDepth 100000 in
set_option maxHeartbeats 4000000 in
theorem implFlow (n : Nat) (a : Option Addr) (cap : Nat) (a2 : Option Addr) (n2 cap2 : Nat) (f : FlowD) (ac : Option Addr) (m cc : Nat) (ahead : Int) (w : World) (hn : n ≤ 1048576) (hm : m = f.cond.length) (hm2 : m ≤ 1048576) :
    Calls Tryd.prog 33 #[.agg #[.slice a n cap, .slice a2 n2 cap2], .agg #[.int .i64 f.src, .int .i64 f.dst, .slice ac m cc], .int .i64 ahead] w fun e w' => e = .returned (.int .i64 (flowF n f ahead)) ∧ Below w.heap.size w w' := by
  have HE := hid hm
  have hB : Below w.heap.size w ((w.alloc (.cells #[.slice a n cap, .slice a2 n2 cap2] 33)).alloc (.cells #[.int .i64 f.src, .int .i64 f.dst, .slice ac m cc] 50)) := ((Below.refl _ w).alloc (Nat.le_refl _) _).alloc (by simp) _
  have HB := hid hB
  have HH := hid (fun k w' => hasNode n a cap (.slice a2 n2 cap2) k w' hn)
  have z0 : w.heap.size < ((w.alloc (.cells #[.slice a n cap, .slice a2 n2 cap2] 33)).alloc (.cells #[.int .i64 f.src, .int .i64 f.dst, .slice ac m cc] 50)).heap.size := by simp; omega
  have z1 : w.heap.size + 1 < ((w.alloc (.cells #[.slice a n cap, .slice a2 n2 cap2] 33)).alloc (.cells #[.int .i64 f.src, .int .i64 f.dst, .slice ac m cc] 50)).heap.size := by simp
  have d0 : ((w.alloc (.cells #[.slice a n cap, .slice a2 n2 cap2] 33)).alloc (.cells #[.int .i64 f.src, .int .i64 f.dst, .slice ac m cc] 50)).cell? ⟨w.heap.size, 0, none⟩ = some (.slice a n cap) := by go_simp
  have d1 : ((w.alloc (.cells #[.slice a n cap, .slice a2 n2 cap2] 33)).alloc (.cells #[.int .i64 f.src, .int .i64 f.dst, .slice ac m cc] 50)).cell? ⟨w.heap.size, 1, none⟩ = some (.slice a2 n2 cap2) := by go_simp
  have d2 : ((w.alloc (.cells #[.slice a n cap, .slice a2 n2 cap2] 33)).alloc (.cells #[.int .i64 f.src, .int .i64 f.dst, .slice ac m cc] 50)).cell? ⟨w.heap.size + 1, 0, none⟩ = some (.int .i64 f.src) := by go_simp
  have d3 : ((w.alloc (.cells #[.slice a n cap, .slice a2 n2 cap2] 33)).alloc (.cells #[.int .i64 f.src, .int .i64 f.dst, .slice ac m cc] 50)).cell? ⟨w.heap.size + 1, 1, none⟩ = some (.int .i64 f.dst) := by go_simp
  have d4 : ((w.alloc (.cells #[.slice a n cap, .slice a2 n2 cap2] 33)).alloc (.cells #[.int .i64 f.src, .int .i64 f.dst, .slice ac m cc] 50)).cell? ⟨w.heap.size + 1, 2, none⟩ = some (.slice ac m cc) := by go_simp
  clear hm hB hn
  go_enter Tryd.func33, Tryd.ntmps33
  go_wp2_with fail
  generalize (w.alloc (.cells #[.slice a n cap, .slice a2 n2 cap2] 33)).alloc (.cells #[.int .i64 f.src, .int .i64 f.dst, .slice ac m cc] 50) = w0 at *
  refine (HH.out _ _).mono ?_
  rintro e w1 ⟨rfl, hb1⟩
  have HB1 := hid (HB.out.trans (hb1.mono HB.out.size))
  cases hs : inR f.src 0 ((n : Int) - 1)
  · have HV := hid (ff_range (n := n) (f := f) (k := ahead) (.inl hs))
    clear hs hb1 d0 d1 d2 d3 d4
    go_wp2
    go_ret
    exact ⟨by rw [HV.out]; rfl, HB1.out⟩
  have HS := hid hs
  clear hs
  have y0 := Nat.lt_of_lt_of_le z0 hb1.size
  have y1 := Nat.lt_of_lt_of_le z1 hb1.size
  have e0 := (hb1.cell (p := ⟨w.heap.size, 0, none⟩) z0).trans d0
  have e1 := (hb1.cell (p := ⟨w.heap.size, 1, none⟩) z0).trans d1
  have e2 := (hb1.cell (p := ⟨w.heap.size + 1, 0, none⟩) z1).trans d2
  have e3 := (hb1.cell (p := ⟨w.heap.size + 1, 1, none⟩) z1).trans d3
  have e4 := (hb1.cell (p := ⟨w.heap.size + 1, 2, none⟩) z1).trans d4
  clear hb1 d0 d1 d2 d3 d4 z0 z1
  go_wp2_with fail
  refine (HH.out _ _).mono ?_
  rintro e w2 ⟨rfl, hb2⟩
  have HB2 := hid (HB1.out.trans (hb2.mono HB1.out.size))
  cases hd : inR f.dst 0 ((n : Int) - 1)
  · have HV := hid (ff_range (n := n) (f := f) (k := ahead) (.inr hd))
    clear hd hb2 e0 e1 e2 e3 e4
    go_wp2
    go_ret
    exact ⟨by rw [HV.out]; rfl, HB2.out⟩
  have HV := hid (ff_rest (k := ahead) HS.out hd)
  clear hd
  have x1 := Nat.lt_of_lt_of_le y1 hb2.size
  have c2 := (hb2.cell (p := ⟨w.heap.size + 1, 0, none⟩) y1).trans e2
  have c4 := (hb2.cell (p := ⟨w.heap.size + 1, 2, none⟩) y1).trans e4
  clear hb2 e0 e1 e2 e3 e4 y0 y1
  by_cases t5 : (16 : Int) < m
  · have HW := hid (HV.out.trans (if_pos (by rw [← HE.out]; exact t5)))
    clear HV
    go_wp2
    go_ret
    exact ⟨by rw [HW.out]; rfl, HB2.out⟩
  by_cases t6 : f.src < ahead
  · have HW := hid ((HV.out.trans (if_neg (by rw [← HE.out]; exact t5))).trans (if_pos t6))
    clear HV
    go_wp2
    go_ret
    exact ⟨by rw [HW.out]; rfl, HB2.out⟩
  · have HW := hid ((HV.out.trans (if_neg (by rw [← HE.out]; exact t5))).trans (if_neg t6))
    clear HV
    go_wp2
    go_ret
    exact ⟨by rw [HW.out]; rfl, HB2.out⟩
set_option maxRecDepth 100000 in
set_option maxHeartbeats 8000000 in
theorem implFault (B : Nat) (g : GraphD) (vn vf : Value) (w : World) (hsm : Small 1048576 g) (ha : At w B vn vf g) (hr : NRul w) :
    Calls Tryd.prog 17 #[.agg #[vn, vf]] w fun e w' => e = .returned (.int .i64 (gFault g)) ∧ Below w.heap.size w w' := by
  obtain ⟨a1, c1, rfl⟩ := ha.nodes.slice
  obtain ⟨a2, c2, rfl⟩ := ha.flows.slice
  have hB : Below w.heap.size w (w.alloc (.cells #[.slice a1 g.nodes.length c1, .slice a2 g.flows.length c2] 33)) := (Below.refl _ w).alloc (Nat.le_refl _) _
  have HB := hid hB
  have HA := hid (ha.below hB)
  have HR := hid (hr.below hB hr.lt)
  have HS := hid hsm
  have z0 : w.heap.size < (w.alloc (.cells #[.slice a1 g.nodes.length c1, .slice a2 g.flows.length c2] 33)).heap.size := by simp
  have d0 : (w.alloc (.cells #[.slice a1 g.nodes.length c1, .slice a2 g.flows.length c2] 33)).cell? ⟨w.heap.size, 0, none⟩ = some (.slice a1 g.nodes.length c1) := by go_simp
  have d1 : (w.alloc (.cells #[.slice a1 g.nodes.length c1, .slice a2 g.flows.length c2] 33)).cell? ⟨w.heap.size, 1, none⟩ = some (.slice a2 g.flows.length c2) := by go_simp
  have hl1 := hsm.nodes.1
  have hl2 := hsm.flows.1
  clear hsm ha hr hB
  go_enter Tryd.func17, Tryd.ntmps17
  by_cases t1 : (g.nodes.length : Int) < 2
  · have HV := hid (g_many (g := g) (.inl (by omega)))
    go_wp2
    go_ret
    exact ⟨by rw [HV.out]; rfl, HB.out⟩
  by_cases t2 : (60 : Int) < g.nodes.length
  · have HV := hid (g_many (g := g) (.inr (.inl (by omega))))
    go_wp2
    go_ret
    exact ⟨by rw [HV.out]; rfl, HB.out⟩
  by_cases t3 : (80 : Int) < g.flows.length
  · have HV := hid (g_many (g := g) (.inr (.inr (by omega))))
    go_wp2
    go_ret
    exact ⟨by rw [HV.out]; rfl, HB.out⟩
  have HG := hid (show ¬ (g.nodes.length < 2 ∨ 60 < g.nodes.length ∨ 80 < g.flows.length) by omega)
  go_wp2_with fail
  generalize w.alloc (.cells #[.slice a1 g.nodes.length c1, .slice a2 g.flows.length c2] 33) = w0 at *
  go_loopw [4, 5, 29] (fun _ _ i wr => ∃ k : Nat, i = .int .i64 k ∧ k ≤ g.nodes.length ∧ Hid (firstC (fun i => nodeC (NJ g.nodes i)) k = 0) ∧ Hid (Below w0.heap.size w0 wr)) (fun _ _ i _ => g.nodes.length - (intOf i).toNat)
  case atStart => exact ⟨0, rfl, Nat.zero_le _, hid rfl, hid (Below.refl _ _)⟩
  case round =>
    obtain ⟨k, rfl, hk, HK, hbelH⟩ := hrel
    have c0 := old_cell hbelH.out z0 d0
    have c3 := old_cell hbelH.out z0 d1
    have zr := Nat.lt_of_lt_of_le z0 hbelH.out.size
    by_cases hlt : k < g.nodes.length
    · obtain ⟨g1, o1, ve1, rfl, hg1, p0, p1, p2, p3, p4, he1⟩ := (HA.out.nodes.below hbelH.out).at hlt
      have r1 : (k : Int) < (g.nodes.length : Int) := by omega
      have hs1 := HS.out.nodes.at hlt
      have HC : Hid (∀ w1 : World, Below wr.heap.size wr w1 → ∀ a n cap, n = g.nodes[k].expr.length → Calls Tryd.prog 32 #[.agg #[.int .i64 g.nodes[k].kind, .int .i64 g.nodes[k].step, .string g.nodes[k].name, .int .i64 g.nodes[k].arg, .slice a n cap]] w1 fun e w' => e = .returned (.int .i64 (nodeC g.nodes[k])) ∧ Below w1.heap.size w1 w') := hid (fun w1 hb a n cap hn => implNode g.nodes[k] a n cap w1 hn (by have := hs1.2; omega) (by have := hs1.1; unfold maxLen; omega) (HR.out.below (hbelH.out.trans (hb.mono hbelH.out.size)) HR.out.lt))
      have HJ := hid (NJ_eq hlt)
      obtain ⟨a4, c4, rfl⟩ := he1.slice
      clear he1 hs1
      generalize g.nodes[k] = nd at *
      go_wp2_with fail
      refine (HC.out _ ?hB _ _ _ rfl).mono ?_
      case hB => exact (Below.refl _ wr).alloc (Nat.le_refl _) _
      rintro e w1 ⟨rfl, hb1⟩
      have hB1 : Below wr.heap.size wr w1 := ((Below.refl _ wr).alloc (Nat.le_refl _) _).trans (hb1.mono (by simp))
      have HB2 := hid (hbelH.out.trans (hB1.mono hbelH.out.size))
      by_cases hz : nodeC nd = 0
      · have HF : Hid (firstC (fun i => nodeC (NJ g.nodes i)) (k + 1) = 0) := hid (first_next HK.out (by show nodeC (NJ g.nodes k) = 0; rw [HJ.out]; exact hz))
        rw [hz]
        clear hz hB1 hb1
        go_wp2
        exact ⟨⟨k + 1, by simp, by omega, HF, HB2⟩, by simp [intOf]; omega⟩
      · have HF := hid (g_node HG.out hlt HK.out (by rw [HJ.out]; exact hz))
        have HB3 := hid (HB.out.trans (HB2.out.mono HB.out.size))
        have hz2 : (nodeC nd != 0) = true := bne_iff_ne.2 hz
        clear hB1 hb1
        go_wp2
        go_ret
        exact ⟨by rw [HF.out, HJ.out]; rfl, HB3.out⟩
    · have HN : Hid (firstC (fun i => nodeC (NJ g.nodes i)) g.nodes.length = 0) := hid ((show k = g.nodes.length by omega) ▸ HK.out)
      have HB1 := hid (HB.out.trans (hbelH.out.mono HB.out.size))
      have HA1 := hid (HA.out.below hbelH.out)
      clear HK HA HB HR d0 d1 z0 hbelH
      go_wp2_with fail
      clear hlt hk
      obtain ⟨wq, hwq⟩ : ∃ wq, wq = wr := ⟨_, rfl⟩
      subst hwq
      go_loopw [6, 8, 9, 42] (fun ah _ _ i wr => ∃ k : Nat, i = .int .i64 k ∧ k ≤ g.flows.length ∧ ah = .int .i64 (aheadOf g.flows k) ∧ Hid (firstC (flowC g) k = 0) ∧ Hid (Below wq.heap.size wq wr)) (fun _ _ _ i _ => g.flows.length - (intOf i).toNat)
      case atStart => exact ⟨0, rfl, Nat.zero_le _, rfl, hid rfl, hid (Below.refl _ _)⟩
      case round =>
        obtain ⟨k, rfl, hk, rfl, HK, hbelH⟩ := hrel
        have d0 := old_cell hbelH.out zr c0
        have d1 := old_cell hbelH.out zr c3
        have zs := Nat.lt_of_lt_of_le zr hbelH.out.size
        by_cases hlt : k < g.flows.length
        · obtain ⟨g1, o1, ve1, rfl, hg1, p0, p1, p2, he1⟩ := (HA1.out.flows.below hbelH.out).at hlt
          have r1 : (k : Int) < (g.flows.length : Int) := by omega
          have hs1 : (g.flows[k].cond.length : Int) ≤ 1048576 := HS.out.flows.at hlt
          have HC : Hid (∀ w1 : World, ∀ a n cap a2 n2 cap2 ac m cc ah, n = g.nodes.length → m = g.flows[k].cond.length → Calls Tryd.prog 33 #[.agg #[.slice a n cap, .slice a2 n2 cap2], .agg #[.int .i64 g.flows[k].src, .int .i64 g.flows[k].dst, .slice ac m cc], .int .i64 ah] w1 fun e w' => e = .returned (.int .i64 (flowF n g.flows[k] ah)) ∧ Below w1.heap.size w1 w') := hid (fun w1 a n cap a2 n2 cap2 ac m cc ah hn hm => implFlow n a cap a2 n2 cap2 g.flows[k] ac m cc ah w1 (by omega) hm (by omega))
          have HJ := hid (FJ_eq hlt)
          have HQ := hid (flowF_eq g (i := k))
          obtain ⟨a4, c4, rfl⟩ := he1.slice
          clear he1 hs1
          have HSU := hid (ahead_succ g.flows k)
          generalize aheadOf g.flows k = ah at *
          rw [HJ.out] at HQ HSU
          generalize g.flows[k] = fl at *
          go_wp2_with fail
          refine (HC.out _ _ _ _ _ _ _ _ _ _ _ rfl rfl).mono ?_
          rintro e w1 ⟨rfl, hb1⟩
          have hB1 : Below wr.heap.size wr w1 := ((Below.refl _ wr).alloc (Nat.le_refl _) _).trans (hb1.mono (by simp))
          have HB2 := hid (hbelH.out.trans (hB1.mono hbelH.out.size))
          have y0 := (hb1.cell (p := ⟨wr.heap.size, 0, none⟩) (by simp)).trans (show _ = some (.int .i64 fl.src) by go_simp)
          have y1 : wr.heap.size < w1.heap.size := by have := hb1.size; simp at this; omega
          rw [HQ.out]
          by_cases hz : flowC g k = 0
          · have HF : Hid (firstC (flowC g) (k + 1) = 0) := hid (first_next HK.out hz)
            rw [hz]
            clear hz hB1 hb1
            go_wp2
            exact ⟨⟨k + 1, by simp, by omega, by rw [HSU.out], HF, HB2⟩, by simp [intOf]; omega⟩
          · have HF := hid (g_flow HG.out HN.out hlt HK.out hz)
            have HB3 := hid (HB1.out.trans (HB2.out.mono HB1.out.size))
            have hz2 : (flowC g k != 0) = true := bne_iff_ne.2 hz
            clear hB1 hb1
            go_wp2
            go_ret
            exact ⟨by rw [HF.out]; rfl, HB3.out⟩
        · have HF : Hid (gFault g = 0) := hid (g_ok HG.out HN.out ((show k = g.flows.length by omega) ▸ HK.out))
          have HB3 := hid (HB1.out.trans (hbelH.out.mono HB1.out.size))
          go_wp2
          go_ret
          exact ⟨by rw [HF.out]; rfl, HB3.out⟩
end Gr
end Go.Proofs.YtepfkfhbkbkepaaDoor
