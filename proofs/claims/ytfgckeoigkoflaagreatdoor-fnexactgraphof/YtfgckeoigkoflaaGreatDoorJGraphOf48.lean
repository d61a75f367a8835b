/- The graph that the program has drawn, told. -/
import Derived.Test.YtfgckeoigkoflaaGreatDoorJGraphOf47
namespace Go.Proofs.YtfgckeoigkoflaaGreatDoor
open Go.RowKit
set_option linter.unusedVariables false
namespace Gr
open Ex (hid nvals at_of_owns owns_keep inR grown_cell2 grown_free2)
open Nd (NodeD)
open Gn (GNodeD)
open Fl (FlowD)
open St (StepD)
open Nst (own flat)
open Rc
/-- What the drawing is told as. -/
def TPost (D : Nat) (g : GraphD) (w : World) (e : Ending) (w' : World) : Prop := ∃ vn vf E F, e = .returned (.agg #[vn, vf]) ∧ GO w' (D + 1) vn vf g E F ∧ Below w.heap.size w w'
theorem one_of_own {w : World} {B : Nat} {e : TypeId} {z n : Nat} {v : Value} {xs : List Value} (h : w.ownsRow B e z v n xs) : v.oneCell' = true := by
  obtain ⟨a, c, rfl⟩ := Nst.own_slice h
  rfl
theorem told_end {w wr : World} {D M k : Nat} {u vn0 vg vf a b : Value} {pn : Nat → Nat} {E : Nat → Value} {fs qs : List (FlowD × Value)} {g : GraphD} {ss : List (Int × Int)} {fv : Nat → FlowD × Value} (hx : DBx w D u vn0 M pn E fs g) (hT : TG w wr (w.heap.size + 1) w.heap.size vg vf g.nodes.length k (fun j => gncell (NJ g.nodes j) (E j)) (fun j => flcell (fv j).1 (fv j).2))
    (hk : k = ss.length) (hq : qs.Perm fs ∧ qs.map (fun p => (p.1.src, p.1.dst)) = ss ∧ qs.map (·.1) = g.flows) (hl : qs.length = ss.length ∧ qs.length = g.flows.length) (hfv : ∀ j (hj : j < qs.length), fv j = qs[j]) :
    TPost D g w (.returned (.agg #[vg, vf])) ((wr.setCell ⟨w.heap.size, 0, none⟩ a).setCell ⟨w.heap.size, 1, none⟩ b) := by
  obtain ⟨wf, hwf⟩ : ∃ wf, wf = (wr.setCell ⟨w.heap.size, 0, none⟩ a).setCell ⟨w.heap.size, 1, none⟩ b := ⟨_, rfl⟩
  rw [← hwf]
  have hD := hx.lt
  have hset : ∀ c, c ≠ w.heap.size → wf.heap[c]? = wr.heap[c]? := fun c hc => by rw [hwf]; exact (Below.heap_setCell _ _ _ _ hc).trans (Below.heap_setCell _ _ _ _ hc)
  have hold : ∀ c, c < w.heap.size → wf.heap[c]? = w.heap[c]? := fun c hc => (hset c (by omega)).trans (hT.below.block c hc)
  have hbf : Below w.heap.size w wf := by rw [hwf]; exact (hT.below.setCell (p := ⟨w.heap.size, 0, none⟩) (Nat.le_refl _) _).setCell (p := ⟨w.heap.size, 1, none⟩) (Nat.le_refl _) _
  have rn : wf.ownsRow (D + 1) 78 5 vg g.nodes.length (flat (fun j => gncell (NJ g.nodes j) (E j)) g.nodes.length) := Nst.own_kept (Nst.own_mono hT.rn (by omega)) (fun c e => hset c (fun e2 => box_ne hT.rn hT.res (by decide) (e2 ▸ e)))
  have hkl : k = g.flows.length := by omega
  have hJ : ∀ j, j < g.flows.length → FJ g.flows j = (fv j).1 := fun j hj => by
    have hjq : j < qs.length := by omega
    rw [hfv j hjq]
    unfold FJ
    rw [← hq.2.2]
    simp [hjq]
  have hmem : ∀ j, j < g.flows.length → fv j ∈ fs := fun j hj => by
    have hjq : j < qs.length := by omega
    rw [hfv j hjq]
    exact hq.1.mem_iff.1 (List.getElem_mem hjq)
  have rf : wf.ownsRow (D + 1) 101 3 vf g.flows.length (flat (fun j => flcell (FJ g.flows j) (fv j).2) g.flows.length) := by
    have h1 := Nst.own_kept (w' := wf) (Nst.own_mono hT.rf (show D + 1 ≤ w.heap.size by omega)) (fun c e => hset c (fun e2 => box_ne hT.rf hT.res (by decide) (e2 ▸ e)))
    rw [hkl] at h1
    have h2 : flat (fun j => flcell (FJ g.flows j) (fv j).2) g.flows.length = flat (fun j => flcell (fv j).1 (fv j).2) g.flows.length := Nst.flat_congr (fun j hj => by rw [hJ j hj])
    rw [h2]
    exact h1
  have sx : ∀ i, i < g.nodes.length → wf.ownsRow (D + 1) 115 4 (E i) (NJ g.nodes i).expr.length (nvals (NJ g.nodes i).expr) := fun i hi => Nst.own_kept (hx.expr i hi) (fun c e => hold c (Nst.own_lt (hx.expr i hi) e).2)
  have sf : ∀ i, i < g.flows.length → wf.ownsRow (D + 1) 115 4 (fv i).2 (FJ g.flows i).cond.length (nvals (FJ g.flows i).cond) := fun i hi => by
    rw [hJ i hi]
    exact Nst.own_kept (hx.cond _ (hmem i hi)) (fun c e => hold c (Nst.own_lt (hx.cond _ (hmem i hi)) e).2)
  have hsep : ∀ i j, i < g.flows.length → j < g.flows.length → i ≠ j → ∀ c, own (fv i).2 c → ¬ own (fv j).2 c := fun i j hi hj hij c e1 e2 => by
    have hpw : qs.Pairwise (fun p q => ∀ b, own p.2 b → ¬ own q.2 b) := (hq.1.pairwise_iff (fun {p q} h b e1 e2 => h b e2 e1)).2 hx.sepF
    have hiq : i < qs.length := by omega
    have hjq : j < qs.length := by omega
    rw [hfv i hiq] at e1
    rw [hfv j hjq] at e2
    rcases Nat.lt_or_gt_of_ne hij with h3 | h3
    · exact List.pairwise_iff_getElem.1 hpw i j hiq hjq h3 c e1 e2
    · exact List.pairwise_iff_getElem.1 hpw j i hjq hiq h3 c e2 e1
  refine ⟨vg, vf, E, fun j => (fv j).2, rfl, ⟨⟨rn, sx, hx.sepE, fun i hi => row_diff (sx i hi) rn (by decide)⟩, ⟨rf, sf, hsep, fun i hi => row_diff (sf i hi) rf (by decide)⟩, row_diff rn rf (by decide), fun c e j hj => row_diff rn (sf j hj) (by decide) c e, fun i hi => row_diff (sx i hi) rf (by decide), fun i hi c e j hj => hx.sepX i hi _ (hmem j hj) c e⟩, hbf⟩
/-- What a flow of the map is read by. -/
structure LK (w : World) (D M er : Nat) (f : FlowD) (v : Value) : Prop where
  d2 : w.cell? ⟨D, 2, none⟩ = some (.map (some M))
  v0 : w.cell? ⟨er, 0, none⟩ = some (.int .i64 f.src)
  v1 : w.cell? ⟨er, 1, none⟩ = some (.int .i64 f.dst)
  lk : (Instr.lookup 51 (.map (some M)) (.agg #[.int .i64 f.src, .int .i64 f.dst]) false).run Tryz.prog w = .ok v w
set_option maxRecDepth 100000 in
set_option maxHeartbeats 16000000 in
theorem toldGraph (D : Nat) (S : Nat → Prop) (u : Value) (g : GraphD) (w : World) (h : DB w D S u g) (hs : Srt g.flows) (hn : g.nodes.length ≤ 1000000000000) (hf0 : 0 < g.flows.length) (hf : g.flows.length ≤ 1000000000000) (hu : u.oneCell' = true) :
    Calls Tryz.prog 21 #[.pointer (some ⟨D, 0, none⟩)] w (TPost D g w) := by
  obtain ⟨j0, hj, hy0, hy1, hy2⟩ := inf_parts2 Gn.infoR
  obtain ⟨i0, hi, hz0, hz1, hz2⟩ := inf_parts2 Fl.infoR
  obtain ⟨vn, M, pn, E, fs, hx, _⟩ := h
  obtain ⟨a, cap, rfl⟩ := Nst.own_slice hx.row
  have hD := hx.lt
  have hb0 : Below w.heap.size w ((w.alloc (.cells #[.slice none 0 0, .slice none 0 0] 27)).alloc (.cells #[.slice none 0 0, .slice none 0 0] 27)) := ((Below.refl _ w).alloc (Nat.le_refl _) _).alloc (by simp) _
  have c1 : w.cell? ⟨D, 1, none⟩ = some (.slice a g.nodes.length cap) := by simp [World.cell?, hx.box]
  have c2 : w.cell? ⟨D, 2, none⟩ = some (.map (some M)) := by simp [World.cell?, hx.box]
  have HT0 : Hid (TG w ((w.alloc (.cells #[.slice none 0 0, .slice none 0 0] 27)).alloc (.cells #[.slice none 0 0, .slice none 0 0] 27)) (w.heap.size + 1) w.heap.size (.slice none 0 0) (.slice none 0 0) 0 0 (fun j => gncell (NJ g.nodes j) (E j)) (fun _ => [])) := hid ⟨hb0, blk2 _ _ _, (Below.heap_alloc _ _ _ (by simp)).trans (heap_alloc_new w _), World.ownsRow_nil _ _ _ _, World.ownsRow_nil _ _ _ _⟩
  have HX := hid hx
  have HS := hid hs
  have hrow := hx.row
  have hd1 := old_cell hb0 hD c1
  clear hx hb0 hs
  go_enter Tryz.func21, Tryz.ntmps21
  go_wp2_with fail
  generalize (w.alloc (.cells #[.slice none 0 0, .slice none 0 0] 27)).alloc (.cells #[.slice none 0 0, .slice none 0 0] 27) = w1 at *
  go_loopw [5, 13] (fun _ i wr => ∃ m : Nat, i = .int .i64 (m : Int) ∧ m ≤ g.nodes.length ∧ Hid (∃ vg, TG w wr (w.heap.size + 1) w.heap.size vg (.slice none 0 0) m 0 (fun j => gncell (NJ g.nodes j) (E j)) (fun _ => []))) (fun _ i _ => g.nodes.length - (intOf i).toNat)
  case atStart => exact ⟨0, rfl, Nat.zero_le _, hid ⟨_, HT0.out⟩⟩
  case round =>
    obtain ⟨m, rfl, hm, HX1⟩ := hrel
    obtain ⟨vg, hT⟩ := HX1.out
    have HT := hid hT
    clear hT HX1 HT0 hd1
    by_cases hmt : m < g.nodes.length
    · have q1 : (m : Int) < (g.nodes.length : Int) := by omega
      obtain ⟨bp, cp, e1, _, hbp, _, _⟩ := Nst.own_some hrow (by omega)
      obtain ⟨rfl, rfl⟩ : a = some ⟨bp, 0, none⟩ ∧ cap = cp := by simpa using e1
      have k0 : wr.cell? ⟨bp, m, none⟩ = some (.pointer (some ⟨pn m, 0, none⟩)) := old_cell HT.out.below hbp ((hrow.cellAt m (by omega)).trans (by simp [ptrs, hmt]))
      have hnd := HX.out.node m hmt
      have hpl : pn m < w.heap.size := (Array.getElem?_eq_some_iff.1 hnd.2).1
      have hblk := (HT.out.below.block (pn m) hpl).trans hnd.2
      have HEX := hid (HX.out.expr m hmt)
      have h1c := one_of_own HEX.out
      obtain ⟨ae, ce, hve⟩ := Nst.own_slice HEX.out
      obtain ⟨ag, cg, rfl⟩ := Nst.own_slice HT.out.rn
      unfold nvN at hblk
      rw [hve] at hblk
      have n0 := bcell hblk 0
      have n1 := bcell hblk 1
      have n2 := bcell hblk 2
      have n3 := bcell hblk 3
      have n4 := bcell hblk 4
      have g0 := bcell HT.out.box 0
      have g0f := bfree HT.out.box 0
      have hzp := Nat.lt_of_lt_of_le hpl HT.out.below.size
      have hzk := cell_lt k0
      have hzG := (Array.getElem?_eq_some_iff.1 HT.out.box).1
      have hown1 := HT.out.rn
      have HVE := hid hve
      have HZ : Hid (w.heap.size ≤ wr.heap.size) := hid HT.out.below.size
      have hneG : (Value.slice ag m cg).ownBlock ≠ some (w.heap.size + 1) := fun e => box_ne HT.out.rn HT.out.box (by decide) e
      clear hblk hve hnd e1
      go_wp2_with fail
      obtain ⟨W, hW⟩ : ∃ W, W = (wr.alloc (.cells #[.int .i64 (NJ g.nodes m).kind, .int .i64 (NJ g.nodes m).step, .string (NJ g.nodes m).name, .int .i64 (NJ g.nodes m).arg, .slice ae (NJ g.nodes m).expr.length ce] 78)).drew := ⟨_, rfl⟩
      have hal : Below wr.heap.size wr W := by rw [hW]; exact ((Below.refl _ wr).alloc (Nat.le_refl _) _).drew
      have hrw : Ap.Row W 5 (.slice (some ⟨wr.heap.size, 0, none⟩) 1 1) 1 (gncell (NJ g.nodes m) (.slice ae (NJ g.nodes m).expr.length ce)) := by rw [hW]; exact row5 (t := 78) rfl (heap_alloc_new wr _)
      have hsW : W.heap.size = wr.heap.size + 1 := by rw [hW]; simp
      have hoW : W.ownsRow w.heap.size 78 5 (.slice ag m cg) m (flat (fun j => gncell (NJ g.nodes j) (E j)) m) := owns_keep hown1 hal
      have HSW := hid hsW
      have hlW : w.heap.size ≤ W.heap.size := Nat.le_trans HZ.out hal.size
      have c0 := old_cell hal hzG g0
      have c0f := old_free hal hzG g0f
      have hzW : w.heap.size + 1 < W.heap.size := Nat.lt_of_lt_of_le hzG hal.size
      clear hsW
      go_region_law
        (first | (rw [← hW]; refine Ap.step_any _ (by rfl) _ _ 24 (by rfl) w.heap.size 78 j0 _ 5 64 Tryz.underlying24 hj hy0 hy1 hy2 rfl (by omega) (.slice ag m cg) m (flat (fun j => gncell (NJ g.nodes j) (E j)) m) (by rfl) hoW (.slice (some ⟨wr.heap.size, 0, none⟩) 1 1) 1 (gncell (NJ g.nodes m) (.slice ae (NJ g.nodes m).expr.length ce)) (by rfl) hrw (by unfold maxLen; omega) (by omega) hlW W.heap.size rfl ?_; intro a3 c3 w3 hown3 hg3 hat3; have y1 := grown_cell2 hg3 c0 hneG; have y2 := grown_free2 hg3 hzW c0f hneG; have HO3 := hid hown3; have HG3 := hid hg3; clear hown3 hg3 hat3))
      all_goals
        have hTn := HT.out.node (x := gncell (NJ g.nodes m) (.slice ae (NJ g.nodes m).expr.length ce)) (Nat.le_succ _) (by omega) hal (by simp only [HVE.out]) HO3.out HG3.out
        have HTn := hid hTn
        clear hTn y1 y2 c0 c0f hoW hrw hal hlW hzW HO3 HG3 HSW hW
        go_wp2
        exact ⟨⟨m + 1, by simp, by omega, hid ⟨_, HTn.out⟩⟩, by simp [intOf]; omega⟩
    · have q1 : ¬ (m : Int) < (g.nodes.length : Int) := by omega
      have HME := hid (show m = g.nodes.length by omega)
      have d2 := old_cell HT.out.below hD c2
      have hzD := Nat.lt_of_lt_of_le hD HT.out.below.size
      have HK := hid (Mp.keys M wr)
      have hbk : Below wr.heap.size wr (wr.alloc (.cells #[.map (some M)] 51)) := (Below.refl _ wr).alloc (Nat.le_refl _) _
      have HBK := hid hbk
      have hfl : fs.length = g.flows.length := by have := HX.out.perm.length_eq; simpa using this
      have HSE := hid (Mp.sortedEnds wr.heap.size M (fs.map fun p => fent p.1 p.2) (wr.alloc (.cells #[.map (some M)] 51)) (by simp) (bcell (heap_alloc_new wr _) 0) ((HX.out.mp.keep (HT.out.below.block M HX.out.mp.lt)).keep (hbk.block M (Nat.lt_of_lt_of_le HX.out.mp.lt HT.out.below.size))) (by simp; omega) (by simp; omega))
      have HFL := hid hfl
      obtain ⟨wq, hwq⟩ : ∃ wq, wq = wr := ⟨_, rfl⟩
      rw [← hwq] at HT HK HSE HBK d2 hzD
      rw [← hwq]
      clear hfl hmt hm hbk hwq
      go_wp2_with fail
      refine HK.out.mono ?_
      rintro e wk ⟨rfl, hwk⟩
      replace hwk := hwk.symm
      subst hwk
      go_wp2_with fail
      refine HSE.out.mono ?_
      rintro e ws ⟨blk, cb, ss, rfl, hp, hso, hb1, hb2, hcells, hbs⟩
      rw [fent_key] at hp
      have hnd : (fs.map fun p => (p.1.src, p.1.dst)).Nodup := by
        have := HX.out.mp.keys
        rw [fent_key] at this
        exact this
      obtain ⟨qs, hq1, hq2, hq3⟩ := sorted_flows HX.out.perm HS.out hnd hp (hso.imp (fun h => by omega))
      have hql : qs.length = ss.length := by rw [← hq2]; simp
      have hqf : qs.length = g.flows.length := by rw [← hq3]; simp
      have HTs := hid ((HT.out.keep HBK.out).keep hbs)
      have HQ := hid (And.intro hq1 (And.intro hq2 hq3))
      have HC := hid hcells
      have HQL := hid (And.intro hql hqf)
      have hsl : ss.length ≤ 1000000000000 := by omega
      obtain ⟨fv, hfv⟩ : ∃ fv : Nat → FlowD × Value, fv = fun j => (qs[j]?).getD (⟨0, 0, []⟩, .slice none 0 0) := ⟨_, rfl⟩
      have HFV : Hid (∀ j (hj : j < qs.length), fv j = qs[j]) := hid (fun j hj => by rw [hfv]; simp [hj])
      have HBL : Hid (w.heap.size + 1 < blk ∧ blk < ws.heap.size) := hid ⟨by have := (Array.getElem?_eq_some_iff.1 HT.out.box).1; simp at hb1; omega, hb2⟩
      have HTs2 : Hid (∃ vg, TG w ws (w.heap.size + 1) w.heap.size vg (.slice none 0 0) g.nodes.length 0 (fun j => gncell (NJ g.nodes j) (E j)) (fun j => flcell (fv j).1 (fv j).2)) := hid ⟨vg, by
        have := HTs.out
        rw [HME.out] at this
        exact ⟨this.below, this.box, this.res, this.rn, World.ownsRow_nil _ _ _ _⟩⟩
      have hZS : Hid (Below wq.heap.size wq ws) := hid (HBK.out.trans (hbs.mono HBK.out.size))
      clear hp hso hcells hbs hnd hq1 hq2 hq3 hql hqf hfv HK HSE HTs HT HBK d2 hzD
      go_wp2_with fail
      go_loopw [7, 34] (fun _ i wr => ∃ k : Nat, i = .int .i64 (k : Int) ∧ k ≤ ss.length ∧ Hid (∃ vg vf, TG w wr (w.heap.size + 1) w.heap.size vg vf g.nodes.length k (fun j => gncell (NJ g.nodes j) (E j)) (fun j => flcell (fv j).1 (fv j).2) ∧ ws.heap.size ≤ wr.heap.size ∧ ∀ b, own vf b → ws.heap.size ≤ b) ∧ Hid (∀ i (h : i < ss.length), wr.cell? ⟨blk, i * 2, none⟩ = some (.int .i64 ss[i].1) ∧ wr.cell? ⟨blk, i * 2 + 1, none⟩ = some (.int .i64 ss[i].2))) (fun _ i _ => ss.length - (intOf i).toNat)
      case atStart =>
        obtain ⟨vg2, h2⟩ := HTs2.out
        exact ⟨0, rfl, Nat.zero_le _, hid ⟨vg2, _, h2, Nat.le_refl _, (fun b e => by cases e)⟩, HC⟩
      case round =>
        obtain ⟨k, rfl, hk, HX2, HC2⟩ := hrel
        obtain ⟨vg2, vf2, hT2, hws, hvb⟩ := HX2.out
        have HWS := hid hws
        have HVB := hid hvb
        have HT := hid hT2
        clear hT2 HX2 HTs2 HC hws hvb
        by_cases hkt : k < ss.length
        · have q2 : (k : Int) < (ss.length : Int) := by omega
          obtain ⟨e0, e1⟩ := HC2.out k hkt
          have hkq : k < qs.length := by have := HQL.out.1; omega
          have hss : ss[k] = ((fv k).1.src, (fv k).1.dst) := by
            rw [HFV.out k hkq]
            have h3 := HQ.out.2.1
            have h4 : (qs.map fun p => (p.1.src, p.1.dst))[k]'(by simpa using hkq) = ss[k] := by simp only [h3]
            rw [← h4]
            simp
          rw [hss] at e0 e1
          have hmem : fv k ∈ fs := by
            rw [HFV.out k hkq]
            exact HQ.out.1.mem_iff.1 (List.getElem_mem hkq)
          obtain ⟨ac, cc, hvc⟩ := Nst.own_slice (HX.out.cond _ hmem)
          have HVC := hid hvc
          have HMM := hid hmem
          obtain ⟨af, cf, rfl⟩ := Nst.own_slice HT.out.rf
          obtain ⟨we, hwe⟩ : ∃ we, we = wr.alloc (.cells #[.int .i64 (fv k).1.src, .int .i64 (fv k).1.dst] 103) := ⟨_, rfl⟩
          have hbe : Below wr.heap.size wr we := by rw [hwe]; exact (Below.refl _ wr).alloc (Nat.le_refl _) _
          have HTe := hid (HT.out.keep hbe)
          have v0 : we.cell? ⟨wr.heap.size, 0, none⟩ = some (.int .i64 (fv k).1.src) := by rw [hwe]; exact bcell (heap_alloc_new wr _) 0
          have v1 : we.cell? ⟨wr.heap.size, 1, none⟩ = some (.int .i64 (fv k).1.dst) := by rw [hwe]; exact bcell (heap_alloc_new wr _) 1
          have hve : we.heap[wr.heap.size]? = some (.cells #[.int .i64 (fv k).1.src, .int .i64 (fv k).1.dst] 103 (0, 0)) := by rw [hwe]; exact heap_alloc_new wr _
          have d2 := old_cell HTe.out.below hD c2
          have hzD := Nat.lt_of_lt_of_le hD HTe.out.below.size
          have g1 := bcell HTe.out.box 1
          have g1f := bfree HTe.out.box 1
          have hzG := (Array.getElem?_eq_some_iff.1 HTe.out.box).1
          have hown1 := HTe.out.rf
          have hneG : (Value.slice af k cf).ownBlock ≠ some (w.heap.size + 1) := fun e => box_ne HTe.out.rf HTe.out.box (by decide) e
          have hlk : (Instr.lookup 51 (.map (some M)) (.agg #[.int .i64 (fv k).1.src, .int .i64 (fv k).1.dst]) false).run Tryz.prog we.drew = .ok (.agg #[.int .i64 (fv k).1.src, .int .i64 (fv k).1.dst, .slice ac (fv k).1.cond.length cc]) we.drew := by
            rw [← hvc]
            exact Mp.At.get (p := ((fv k).1.src, (fv k).1.dst)) (HX.out.mp.keep ((HTe.out.below.drew).block M HX.out.mp.lt)) (List.mem_map.2 ⟨fv k, hmem, rfl⟩)
          have HZ : Hid (w.heap.size ≤ we.heap.size) := hid HTe.out.below.size
          have hzr : wr.heap.size < we.heap.size := by rw [hwe]; simp
          have HCF : Hid (∀ wx : World, wx.heap[blk]? = we.heap[blk]? → ∀ i (h : i < ss.length), wx.cell? ⟨blk, i * 2, none⟩ = some (.int .i64 ss[i].1) ∧ wx.cell? ⟨blk, i * 2 + 1, none⟩ = some (.int .i64 ss[i].2)) := hid (fun wx hwx i hi => by
            have h5 := old_cell hbe (cell_lt (HC2.out i hi).1) (HC2.out i hi).1
            have h6 := old_cell hbe (cell_lt (HC2.out i hi).1) (HC2.out i hi).2
            simp only [World.cell?] at h5 h6 ⊢
            rw [hwx]
            exact ⟨h5, h6⟩)
          have HCE : Hid (∀ i (h : i < ss.length), we.cell? ⟨blk, i * 2, none⟩ = some (.int .i64 ss[i].1) ∧ we.cell? ⟨blk, i * 2 + 1, none⟩ = some (.int .i64 ss[i].2)) := hid (fun i hi => ⟨old_cell hbe (cell_lt (HC2.out i hi).1) (HC2.out i hi).1, old_cell hbe (cell_lt (HC2.out i hi).1) (HC2.out i hi).2⟩)
          have hzb := cell_lt e0
          have hbl2 : blk < we.heap.size := Nat.lt_of_lt_of_le hzb hbe.size
          have HWE : Hid (ws.heap.size ≤ we.heap.size) := hid (Nat.le_trans HWS.out hbe.size)
          have hblG : blk ≠ w.heap.size + 1 := by have := HBL.out.1; omega
          have hneB : (Value.slice af k cf).ownBlock ≠ some blk := fun e => by have := HVB.out blk e; have := HBL.out.2; omega
          clear hvc hmem hss hbe HT
          go_wp2_with fail
          rw [← hwe]
          clear hwe e0 e1 hzb
          obtain ⟨W, hW⟩ : ∃ W, W = (we.alloc (.cells #[.int .i64 (fv k).1.src, .int .i64 (fv k).1.dst, .slice ac (fv k).1.cond.length cc] 101)).drew := ⟨_, rfl⟩
          have hal : Below we.heap.size we W := by rw [hW]; exact ((Below.refl _ we).alloc (Nat.le_refl _) _).drew
          have hrw : Ap.Row W 3 (.slice (some ⟨we.heap.size, 0, none⟩) 1 1) 1 (flcell (fv k).1 (.slice ac (fv k).1.cond.length cc)) := by rw [hW]; exact row3 (t := 101) rfl (heap_alloc_new we _)
          have hoW : W.ownsRow w.heap.size 101 3 (.slice af k cf) k (flat (fun j => flcell (fv j).1 (fv j).2) k) := owns_keep hown1 hal
          have hlW : w.heap.size ≤ W.heap.size := Nat.le_trans HZ.out hal.size
          have y0 := old_cell hal hzG g1
          have y0f := old_free hal hzG g1f
          have hzW : w.heap.size + 1 < W.heap.size := Nat.lt_of_lt_of_le hzG hal.size
          obtain ⟨er, her0⟩ : ∃ er, er = wr.heap.size := ⟨_, rfl⟩
          rw [← her0] at v0 v1 hve hzr
          rw [← her0]
          have her : er < we.heap.size := hzr
          have herW : er < W.heap.size := Nat.lt_of_lt_of_le her hal.size
          have hneE : (Value.slice af k cf).ownBlock ≠ some er := fun e => box_ne hown1 hve (by decide) e
          have herG : er ≠ w.heap.size + 1 := fun e => by
            have hq := HTe.out.box
            rw [← e, hve] at hq
            have := Option.some.inj hq
            simp at this
          have HLK : Hid (∀ wx, Below w.heap.size w wx → wx.heap[er]? = some (.cells #[.int .i64 (fv k).1.src, .int .i64 (fv k).1.dst] 103 (0, 0)) → LK wx D M er (fv k).1 (.agg #[.int .i64 (fv k).1.src, .int .i64 (fv k).1.dst, .slice ac (fv k).1.cond.length cc])) := hid (fun wx hbx hex => ⟨old_cell hbx hD c2, bcell hex 0, bcell hex 1, by
            rw [← HVC.out]
            exact Mp.At.get (p := ((fv k).1.src, (fv k).1.dst)) (HX.out.mp.keep (hbx.block M HX.out.mp.lt)) (List.mem_map.2 ⟨fv k, HMM.out, rfl⟩)⟩)
          have hlk0 := HLK.out we.drew HTe.out.below.drew hve
          have hlkW := HLK.out W (HTe.out.below.trans (hal.mono HTe.out.below.size)) ((hal.block er her).trans hve)
          clear hlk her0
          refine wp_region_held_drew (S := fun wx => LK wx D M er (fv k).1 (.agg #[.int .i64 (fv k).1.src, .int .i64 (fv k).1.dst, .slice ac (fv k).1.cond.length cc])) (by kernel_rfl) hlk0 (fun hHeld => ?_)
          refine wpAnyH_take (i := 0) (oi := { dst := some 38, op := Go.Op.fieldAddr 27 (Go.Operand.tmp 3) 1, type := 0, pos := "l06_graph.go:228", after := #[], guard := none }) (v := .pointer (some ⟨w.heap.size + 1, 1, none⟩)) rfl (by kernel_rfl) (by kernel_rfl) (by kernel_rfl) (fun _ _ _ h => h) (Or.inl ⟨by rfl, by intro w hSw; (try dsimp only at hSw); obtain ⟨s0, s1, s2, s3⟩ := hSw; go_simp⟩) (by assumption) ?_
          simp only [Act.put, List.setIfInBounds_toArray, List.set_cons_zero, List.set_cons_succ]
          refine wpAnyH_take (i := 2) (oi := { dst := some 40, op := Go.Op.move (Go.Operand.tmp 0), type := 90, pos := "l06_graph.go:228", after := #[], guard := none }) (v := .pointer (some ⟨D, 0, none⟩)) rfl (by kernel_rfl) (by kernel_rfl) (by kernel_rfl) (fun _ _ _ h => h) (Or.inl ⟨by rfl, by intro w hSw; (try dsimp only at hSw); obtain ⟨s0, s1, s2, s3⟩ := hSw; go_simp⟩) (by assumption) ?_
          simp only [Act.put, List.setIfInBounds_toArray, List.set_cons_zero, List.set_cons_succ]
          refine wpAnyH_take (i := 3) (oi := { dst := some 41, op := Go.Op.nilCheck (Go.Operand.tmp 40), type := 0, pos := "l06_graph.go:228", after := #[{ on := 2, ground := Go.Ground.data }], guard := none }) (v := .pointer (some ⟨D, 0, none⟩)) rfl (by kernel_rfl) (by kernel_rfl) (by kernel_rfl) (fun _ _ _ h => h) (Or.inl ⟨by rfl, by intro w hSw; (try dsimp only at hSw); obtain ⟨s0, s1, s2, s3⟩ := hSw; go_simp⟩) (by assumption) ?_
          simp only [Act.put, List.setIfInBounds_toArray, List.set_cons_zero, List.set_cons_succ]
          refine wpAnyH_take (i := 4) (oi := { dst := some 42, op := Go.Op.fieldAddr 54 (Go.Operand.tmp 41) 2, type := 0, pos := "l06_graph.go:228", after := #[{ on := 3, ground := Go.Ground.data }], guard := none }) (v := .pointer (some ⟨D, 2, none⟩)) rfl (by kernel_rfl) (by kernel_rfl) (by kernel_rfl) (fun _ _ _ h => h) (Or.inl ⟨by rfl, by intro w hSw; (try dsimp only at hSw); obtain ⟨s0, s1, s2, s3⟩ := hSw; go_simp⟩) (by assumption) ?_
          simp only [Act.put, List.setIfInBounds_toArray, List.set_cons_zero, List.set_cons_succ]
          refine wpAnyH_take (i := 5) (oi := { dst := some 43, op := Go.Op.load 51 (Go.Operand.tmp 42), type := 51, pos := "l06_graph.go:228", after := #[{ on := 4, ground := Go.Ground.data }], guard := none }) (v := .map (some M)) rfl (by kernel_rfl) (by kernel_rfl) (by kernel_rfl) (fun _ _ _ h => h) (Or.inl ⟨by rfl, by intro w hSw; (try dsimp only at hSw); obtain ⟨s0, s1, s2, s3⟩ := hSw; go_simp⟩) (by assumption) ?_
          simp only [Act.put, List.setIfInBounds_toArray, List.set_cons_zero, List.set_cons_succ]
          refine wpAnyH_take (i := 6) (oi := { dst := some 44, op := Go.Op.load 103 (Go.Operand.tmp 7), type := 103, pos := "l06_graph.go:228", after := #[], guard := none }) (v := .agg #[.int .i64 (fv k).1.src, .int .i64 (fv k).1.dst]) rfl (by kernel_rfl) (by kernel_rfl) (by kernel_rfl) (fun _ _ _ h => h) (Or.inl ⟨by rfl, by intro w hSw; (try dsimp only at hSw); obtain ⟨s0, s1, s2, s3⟩ := hSw; go_simp⟩) (by assumption) ?_
          simp only [Act.put, List.setIfInBounds_toArray, List.set_cons_zero, List.set_cons_succ]
          refine wpAnyH_take (i := 7) (oi := { dst := some 45, op := Go.Op.lookup 51 (Go.Operand.tmp 43) (Go.Operand.tmp 44) false, type := 101, pos := "l06_graph.go:228", after := #[{ on := 5, ground := Go.Ground.data }, { on := 6, ground := Go.Ground.data }], guard := none }) (v := .agg #[.int .i64 (fv k).1.src, .int .i64 (fv k).1.dst, .slice ac (fv k).1.cond.length cc]) rfl (by kernel_rfl) (by kernel_rfl) (by kernel_rfl) (fun _ _ _ h => h) (Or.inl ⟨by rfl, by intro w hSw; (try dsimp only at hSw); obtain ⟨s0, s1, s2, s3⟩ := hSw; go_simp⟩) (by assumption) ?_
          simp only [Act.put, List.setIfInBounds_toArray, List.set_cons_zero, List.set_cons_succ]
          refine wpAnyH_ready (rs := [1, 8]) (by kernel_rfl) (by simp) ?_
          refine (AllReadyH.cons (o := { dst := some 39, op := Go.Op.load 25 (Go.Operand.tmp 38), type := 25, pos := "l06_graph.go:228", after := #[{ on := 0, ground := Go.Ground.data }], guard := none }) rfl (fun K hK => ?_) (AllReadyH.cons (o := { dst := some 46, op := Go.Op.buildSlice 25 1 #[(0, Go.Operand.tmp 45)], type := 25, pos := "l06_graph.go:228", after := #[{ on := 7, ground := Go.Ground.data }], guard := none }) rfl (fun K hK => ?_) AllReadyH.nil))
          · go_simp
            refine hK.out _ _ hlk0 (fun hHeld => ?_)
            clear hK K
            try simp only [Act.put, List.setIfInBounds_toArray, List.set_cons_zero, List.set_cons_succ]
            refine wpAnyH_ready (rs := [8]) (by kernel_rfl) (by simp) ?_
            refine (AllReadyH.cons (o := { dst := some 46, op := Go.Op.buildSlice 25 1 #[(0, Go.Operand.tmp 45)], type := 25, pos := "l06_graph.go:228", after := #[{ on := 7, ground := Go.Ground.data }], guard := none }) rfl (fun K hK => ?_) AllReadyH.nil)
            go_simp
            rw [← hW]
            clear hW
            refine hK.out _ _ hlkW (fun hHeld => ?_)
            clear hK K
            try simp only [Act.put, List.setIfInBounds_toArray, List.set_cons_zero, List.set_cons_succ]
            refine wpAnyH_ready (rs := [9]) (by kernel_rfl) (by simp) ?_
            refine (AllReadyH.cons (o := { dst := some 47, op := Go.Op.call { callee := Go.Callee.builtin Go.Builtin.append, args := #[Go.Operand.tmp 39, Go.Operand.tmp 46], argTypes := #[25, 25] }, type := 25, pos := "l06_graph.go:228", after := #[{ on := 1, ground := Go.Ground.data }, { on := 8, ground := Go.Ground.data }], guard := none }) rfl (fun K hK => ?_) AllReadyH.nil)
            refine Ap.step_any _ (by rfl) _ _ 25 (by rfl) w.heap.size 101 i0 _ 3 40 Tryz.underlying25 hi hz0 hz1 hz2 rfl (by omega) (.slice af k cf) k (flat (fun j => flcell (fv j).1 (fv j).2) k) (by rfl) hoW (.slice (some ⟨we.heap.size, 0, none⟩) 1 1) 1 (flcell (fv k).1 (.slice ac (fv k).1.cond.length cc)) (by rfl) hrw (by unfold maxLen; omega) (by omega) hlW W.heap.size rfl ?_
            intro a3 c3 w3 hown3 hg3 hat3
            have y1 := grown_cell2 hg3 y0 hneG
            have y2 := grown_free2 hg3 hzW y0f hneG
            have hlk3 := HLK.out w3 ((HTe.out.below.trans (hal.mono HTe.out.below.size)).grown hg3 hlW (fun b e => (Nst.own_lt hown1 e).1)) ((hg3.block er herW (fun e => hneE e.symm)).trans ((hal.block er her).trans hve))
            have HTn := hid (HTe.out.flow (x := flcell (fv k).1 (.slice ac (fv k).1.cond.length cc)) (Nat.le_succ _) (by omega) hal (by simp only [HVC.out]) hown3 hg3)
            have hlk4 := HLK.out (w3.setCell ⟨w.heap.size + 1, 1, none⟩ (.slice a3 (k + 1) c3)) HTn.out.below ((Below.heap_setCell _ _ _ er (fun e => herG e)).trans ((hg3.block er herW (fun e => hneE e.symm)).trans ((hal.block er her).trans hve)))
            have hcl4 : ∀ i (h : i < ss.length), (w3.setCell ⟨w.heap.size + 1, 1, none⟩ (.slice a3 (k + 1) c3)).cell? ⟨blk, i * 2, none⟩ = some (.int .i64 ss[i].1) ∧ (w3.setCell ⟨w.heap.size + 1, 1, none⟩ (.slice a3 (k + 1) c3)).cell? ⟨blk, i * 2 + 1, none⟩ = some (.int .i64 ss[i].2) := HCF.out _ ((Below.heap_setCell _ _ _ blk (fun e => hblG e)).trans ((hg3.block blk (Nat.lt_of_lt_of_le hbl2 hal.size) (fun e => hneB e.symm)).trans (hal.block blk hbl2)))
            have HC4 := hid hcl4
            have HVN : Hid (ws.heap.size ≤ (w3.setCell ⟨w.heap.size + 1, 1, none⟩ (.slice a3 (k + 1) c3)).heap.size ∧ ∀ b, own (.slice a3 (k + 1) c3) b → ws.heap.size ≤ b) := hid ⟨by have e1 := hg3.size; have e2 := HWE.out; have e3 := hal.size; simp [World.setCell]; omega, fun b e => by rcases hat3 with e4 | e4; exact HVB.out b (by unfold own; rw [← e4]; exact e); have e5 : W.heap.size = b := Option.some.inj (e4.symm.trans e); have e2 := HWE.out; have e3 := hal.size; omega⟩
            clear hg3 hat3 hown3 hcl4
            refine hK.out _ _ hlk3 (fun hHeld => ?_)
            clear hK K
            try simp only [Act.put, List.setIfInBounds_toArray, List.set_cons_zero, List.set_cons_succ]
            refine wpAnyH_take (i := 10) (oi := { dst := some 48, op := Go.Op.fieldAddr 27 (Go.Operand.tmp 3) 1, type := 0, pos := "l06_graph.go:228", after := #[{ on := 0, ground := Go.Ground.phase }, { on := 1, ground := Go.Ground.phase }, { on := 2, ground := Go.Ground.phase }, { on := 3, ground := Go.Ground.phase }, { on := 4, ground := Go.Ground.phase }, { on := 5, ground := Go.Ground.phase }, { on := 6, ground := Go.Ground.phase }, { on := 7, ground := Go.Ground.phase }, { on := 8, ground := Go.Ground.phase }, { on := 9, ground := Go.Ground.phase }], guard := none }) (v := .pointer (some ⟨w.heap.size + 1, 1, none⟩)) rfl (by kernel_rfl) (by kernel_rfl) (by kernel_rfl) (fun _ _ _ h => h) (Or.inl ⟨by rfl, by intro w hSw; (try dsimp only at hSw); obtain ⟨s0, s1, s2, s3⟩ := hSw; go_simp⟩) (by assumption) ?_
            simp only [Act.put, List.setIfInBounds_toArray, List.set_cons_zero, List.set_cons_succ]
            refine wpAnyH_ready (rs := [11]) (by kernel_rfl) (by simp) ?_
            refine (AllReadyH.cons (o := { dst := none, op := Go.Op.store 25 (Go.Operand.tmp 48) (Go.Operand.tmp 47), type := 0, pos := "l06_graph.go:228", after := #[{ on := 10, ground := Go.Ground.data }, { on := 9, ground := Go.Ground.data }, { on := 9, ground := Go.Ground.chain }, { on := 0, ground := Go.Ground.phase }, { on := 1, ground := Go.Ground.phase }, { on := 2, ground := Go.Ground.phase }, { on := 3, ground := Go.Ground.phase }, { on := 4, ground := Go.Ground.phase }, { on := 5, ground := Go.Ground.phase }, { on := 6, ground := Go.Ground.phase }, { on := 7, ground := Go.Ground.phase }, { on := 8, ground := Go.Ground.phase }, { on := 9, ground := Go.Ground.phase }], guard := none }) rfl (fun K hK => ?_) AllReadyH.nil)
            go_simp
            refine hK.out _ _ hlk4 (fun hHeld => ?_)
            clear hK K
            try simp only [Act.put]
            refine wpAnyH_done (by kernel_rfl) ?_ _
            clear hlk0 hlkW hlk3 hlk4 y1 y2 y0 y0f g1 g1f d2 v0 v1 hHeld hrw hoW hal
            go_wp2
            exact ⟨⟨k + 1, by simp, by omega, hid ⟨_, _, HTn.out, HVN.out⟩, HC4⟩, by simp [intOf]; omega⟩
          · go_simp
            rw [← hW]
            clear hW
            refine hK.out _ _ hlkW (fun hHeld => ?_)
            clear hK K
            try simp only [Act.put, List.setIfInBounds_toArray, List.set_cons_zero, List.set_cons_succ]
            refine wpAnyH_ready (rs := [1]) (by kernel_rfl) (by simp) ?_
            refine (AllReadyH.cons (o := { dst := some 39, op := Go.Op.load 25 (Go.Operand.tmp 38), type := 25, pos := "l06_graph.go:228", after := #[{ on := 0, ground := Go.Ground.data }], guard := none }) rfl (fun K hK => ?_) AllReadyH.nil)
            go_simp
            refine hK.out _ _ hlkW (fun hHeld => ?_)
            clear hK K
            try simp only [Act.put, List.setIfInBounds_toArray, List.set_cons_zero, List.set_cons_succ]
            refine wpAnyH_ready (rs := [9]) (by kernel_rfl) (by simp) ?_
            refine (AllReadyH.cons (o := { dst := some 47, op := Go.Op.call { callee := Go.Callee.builtin Go.Builtin.append, args := #[Go.Operand.tmp 39, Go.Operand.tmp 46], argTypes := #[25, 25] }, type := 25, pos := "l06_graph.go:228", after := #[{ on := 1, ground := Go.Ground.data }, { on := 8, ground := Go.Ground.data }], guard := none }) rfl (fun K hK => ?_) AllReadyH.nil)
            refine Ap.step_any _ (by rfl) _ _ 25 (by rfl) w.heap.size 101 i0 _ 3 40 Tryz.underlying25 hi hz0 hz1 hz2 rfl (by omega) (.slice af k cf) k (flat (fun j => flcell (fv j).1 (fv j).2) k) (by rfl) hoW (.slice (some ⟨we.heap.size, 0, none⟩) 1 1) 1 (flcell (fv k).1 (.slice ac (fv k).1.cond.length cc)) (by rfl) hrw (by unfold maxLen; omega) (by omega) hlW W.heap.size rfl ?_
            intro a3 c3 w3 hown3 hg3 hat3
            have y1 := grown_cell2 hg3 y0 hneG
            have y2 := grown_free2 hg3 hzW y0f hneG
            have hlk3 := HLK.out w3 ((HTe.out.below.trans (hal.mono HTe.out.below.size)).grown hg3 hlW (fun b e => (Nst.own_lt hown1 e).1)) ((hg3.block er herW (fun e => hneE e.symm)).trans ((hal.block er her).trans hve))
            have HTn := hid (HTe.out.flow (x := flcell (fv k).1 (.slice ac (fv k).1.cond.length cc)) (Nat.le_succ _) (by omega) hal (by simp only [HVC.out]) hown3 hg3)
            have hlk4 := HLK.out (w3.setCell ⟨w.heap.size + 1, 1, none⟩ (.slice a3 (k + 1) c3)) HTn.out.below ((Below.heap_setCell _ _ _ er (fun e => herG e)).trans ((hg3.block er herW (fun e => hneE e.symm)).trans ((hal.block er her).trans hve)))
            have hcl4 : ∀ i (h : i < ss.length), (w3.setCell ⟨w.heap.size + 1, 1, none⟩ (.slice a3 (k + 1) c3)).cell? ⟨blk, i * 2, none⟩ = some (.int .i64 ss[i].1) ∧ (w3.setCell ⟨w.heap.size + 1, 1, none⟩ (.slice a3 (k + 1) c3)).cell? ⟨blk, i * 2 + 1, none⟩ = some (.int .i64 ss[i].2) := HCF.out _ ((Below.heap_setCell _ _ _ blk (fun e => hblG e)).trans ((hg3.block blk (Nat.lt_of_lt_of_le hbl2 hal.size) (fun e => hneB e.symm)).trans (hal.block blk hbl2)))
            have HC4 := hid hcl4
            have HVN : Hid (ws.heap.size ≤ (w3.setCell ⟨w.heap.size + 1, 1, none⟩ (.slice a3 (k + 1) c3)).heap.size ∧ ∀ b, own (.slice a3 (k + 1) c3) b → ws.heap.size ≤ b) := hid ⟨by have e1 := hg3.size; have e2 := HWE.out; have e3 := hal.size; simp [World.setCell]; omega, fun b e => by rcases hat3 with e4 | e4; exact HVB.out b (by unfold own; rw [← e4]; exact e); have e5 : W.heap.size = b := Option.some.inj (e4.symm.trans e); have e2 := HWE.out; have e3 := hal.size; omega⟩
            clear hg3 hat3 hown3 hcl4
            refine hK.out _ _ hlk3 (fun hHeld => ?_)
            clear hK K
            try simp only [Act.put, List.setIfInBounds_toArray, List.set_cons_zero, List.set_cons_succ]
            refine wpAnyH_take (i := 10) (oi := { dst := some 48, op := Go.Op.fieldAddr 27 (Go.Operand.tmp 3) 1, type := 0, pos := "l06_graph.go:228", after := #[{ on := 0, ground := Go.Ground.phase }, { on := 1, ground := Go.Ground.phase }, { on := 2, ground := Go.Ground.phase }, { on := 3, ground := Go.Ground.phase }, { on := 4, ground := Go.Ground.phase }, { on := 5, ground := Go.Ground.phase }, { on := 6, ground := Go.Ground.phase }, { on := 7, ground := Go.Ground.phase }, { on := 8, ground := Go.Ground.phase }, { on := 9, ground := Go.Ground.phase }], guard := none }) (v := .pointer (some ⟨w.heap.size + 1, 1, none⟩)) rfl (by kernel_rfl) (by kernel_rfl) (by kernel_rfl) (fun _ _ _ h => h) (Or.inl ⟨by rfl, by intro w hSw; (try dsimp only at hSw); obtain ⟨s0, s1, s2, s3⟩ := hSw; go_simp⟩) (by assumption) ?_
            simp only [Act.put, List.setIfInBounds_toArray, List.set_cons_zero, List.set_cons_succ]
            refine wpAnyH_ready (rs := [11]) (by kernel_rfl) (by simp) ?_
            refine (AllReadyH.cons (o := { dst := none, op := Go.Op.store 25 (Go.Operand.tmp 48) (Go.Operand.tmp 47), type := 0, pos := "l06_graph.go:228", after := #[{ on := 10, ground := Go.Ground.data }, { on := 9, ground := Go.Ground.data }, { on := 9, ground := Go.Ground.chain }, { on := 0, ground := Go.Ground.phase }, { on := 1, ground := Go.Ground.phase }, { on := 2, ground := Go.Ground.phase }, { on := 3, ground := Go.Ground.phase }, { on := 4, ground := Go.Ground.phase }, { on := 5, ground := Go.Ground.phase }, { on := 6, ground := Go.Ground.phase }, { on := 7, ground := Go.Ground.phase }, { on := 8, ground := Go.Ground.phase }, { on := 9, ground := Go.Ground.phase }], guard := none }) rfl (fun K hK => ?_) AllReadyH.nil)
            go_simp
            refine hK.out _ _ hlk4 (fun hHeld => ?_)
            clear hK K
            try simp only [Act.put]
            refine wpAnyH_done (by kernel_rfl) ?_ _
            clear hlk0 hlkW hlk3 hlk4 y1 y2 y0 y0f g1 g1f d2 v0 v1 hHeld hrw hoW hal
            go_wp2
            exact ⟨⟨k + 1, by simp, by omega, hid ⟨_, _, HTn.out, HVN.out⟩, HC4⟩, by simp [intOf]; omega⟩
        · have q2 : ¬ (k : Int) < (ss.length : Int) := by omega
          have HKE := hid (show k = ss.length by omega)
          have g0 := bcell HT.out.box 0
          have g1 := bcell HT.out.box 1
          have r0 := bcell HT.out.res 0
          have r1 := bcell HT.out.res 1
          have f0 := bfree HT.out.res 0
          have f1 := bfree HT.out.res 1
          obtain ⟨an, cn2, rfl⟩ := Nst.own_slice HT.out.rn
          obtain ⟨af, cf, rfl⟩ := Nst.own_slice HT.out.rf
          have hzR := (Array.getElem?_eq_some_iff.1 HT.out.res).1
          go_wp2
          have hM2 := blk2_set (i := 1) (blk2_set (i := 0) HT.out.res (.slice an g.nodes.length cn2)) (.slice af k cf)
          have h0 := bcell hM2 0
          have h1 := bcell hM2 1
          refine bodyPost_ret (v := .agg #[.slice an g.nodes.length cn2, .slice af k cf]) (by simp [results, Tryz.results21, go_sem, h0, h1]) rfl ?_
          exact told_end HX.out HT.out HKE.out HQ.out HQL.out HFV.out
end Gr
end Go.Proofs.YtfgckeoigkoflaaGreatDoor
