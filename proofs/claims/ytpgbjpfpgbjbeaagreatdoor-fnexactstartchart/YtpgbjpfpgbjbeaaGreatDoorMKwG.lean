/- StartChart of the specification. -/
import Derived.Test.YtpgbjpfpgbjbeaaGreatDoorJCh50
import Derived.Deep.RegionHeld3
import Derived.Deep.Cut
namespace Go.Proofs.YtpgbjpfpgbjbeaaGreatDoor
open Go.RowKit Go.Deep
set_option linter.unusedVariables false
set_option linter.unusedSimpArgs false
namespace Kw
open Ex (inR evalCode evalVal vFault hid specIn)
open St (StepD)
open Ch (RunD)
open Pf
open Kc (CS upd zer endOf stopped idle kid go mE mO Ok)
open Kt (Row Pos SAt Ride TPost optI specGo specIdle)
open Kv
/-- What is there of a chart that is being made: the variables' row, two rows of zeros, the chart's own block. -/
structure Got (w2 wx : World) (vars : List Int) (n : Nat) (c : Option (Nat × Nat)) (x y z : Option Nat) : Prop where
  bel : Below w2.heap.size w2 wx
  gc : ∀ b d, c = some (b, d) → w2.heap.size ≤ b ∧ Row wx b vars.length d (gf vars)
  gx : ∀ b, x = some b → w2.heap.size ≤ b ∧ Row wx b n n (fun _ => 0)
  gy : ∀ b, y = some b → w2.heap.size ≤ b ∧ Row wx b n n (fun _ => 0)
  gz : ∀ b, z = some b → w2.heap.size ≤ b ∧ wx.heap[b]? = some (.cells #[.int .i64 0, .int .i64 0, .slice none 0 0, .slice none 0 0, .slice none 0 0] 26)
  cx : ∀ b d e, c = some (b, d) → x = some e → b ≠ e
  cy : ∀ b d e, c = some (b, d) → y = some e → b ≠ e
  cz : ∀ b d e, c = some (b, d) → z = some e → b ≠ e
  xy : ∀ b e, x = some b → y = some e → b ≠ e
  xz : ∀ b e, x = some b → z = some e → b ≠ e
  yz : ∀ b e, y = some b → z = some e → b ≠ e
theorem Got.start (w2 : World) (vars : List Int) (n : Nat) : Got w2 w2.drew vars n none none none none :=
  ⟨(Below.refl _ w2).drew, (fun b d h => by cases h), (fun b h => by cases h), (fun b h => by cases h), (fun b h => by cases h), (fun b d e h => by cases h), (fun b d e h => by cases h), (fun b d e h => by cases h), (fun b e h => by cases h), (fun b e h => by cases h), (fun b e h => by cases h)⟩
/-- What is there stays, and lies below. -/
theorem Got.on {w2 wx wy : World} {vars : List Int} {n : Nat} {c : Option (Nat × Nat)} {x y z : Option Nat} (h : Got w2 wx vars n c x y z) (hb : Below wx.heap.size wx wy) : Got w2 wy vars n c x y z :=
  ⟨h.bel.trans (hb.mono h.bel.size), (fun b d e => ⟨(h.gc b d e).1, Row.below (h.gc b d e).2 hb⟩), (fun b e => ⟨(h.gx b e).1, Row.below (h.gx b e).2 hb⟩), (fun b e => ⟨(h.gy b e).1, Row.below (h.gy b e).2 hb⟩), (fun b e => ⟨(h.gz b e).1, (hb.block b (Ch.blk_lt (h.gz b e).2)).trans (h.gz b e).2⟩), h.cx, h.cy, h.cz, h.xy, h.xz, h.yz⟩
theorem Got.call {w2 wx wy : World} {vars : List Int} {n b d : Nat} {x y z : Option Nat} (h : Got w2 wx vars n none x y z) (h1 : wx.heap.size ≤ b) (h2 : Row wy b vars.length d (gf vars)) (hb : Below wx.heap.size wx wy) : Got w2 wy vars n (some (b, d)) x y z := by
  have g := h.on hb
  have hs := h.bel.size
  refine ⟨g.bel, (fun b' d' e => by cases e; exact ⟨by omega, h2⟩), g.gx, g.gy, g.gz, (fun b' d' e' h5 h6 => ?_), (fun b' d' e' h5 h6 => ?_), (fun b' d' e' h5 h6 => ?_), g.xy, g.xz, g.yz⟩
  · cases h5; have := (h.gx _ h6).2.lt; omega
  · cases h5; have := (h.gy _ h6).2.lt; omega
  · cases h5; have := Ch.blk_lt (h.gz _ h6).2; omega
theorem zero_row (w : World) (n : Nat) (hn : n ≤ 24) : Row (w.alloc (.cells (madeCells #[.int .i64 0] n) 2)) w.heap.size n n (fun _ => 0) := by
  refine ⟨⟨_, Ch.new_blk _ _, by rw [size_madeCells], fun i hi => ?_⟩, Nat.le_refl _, by unfold maxLen; omega⟩
  simp [madeCells, hi, Nat.mod_one]
theorem new_b (w : World) (o : Obj) : Below w.heap.size w (w.alloc o) := (Below.refl _ w).alloc (Nat.le_refl _) _
theorem Got.mkx {w2 wx wy : World} {vars : List Int} {n b : Nat} {c : Option (Nat × Nat)} {y z : Option Nat} (h : Got w2 wx vars n c none y z) (hn : n ≤ 24) (e1 : wy = wx.alloc (.cells (madeCells #[.int .i64 0] n) 2)) (e2 : b = wx.heap.size) : Got w2 wy vars n c (some b) y z := by
  subst e1 e2
  have g := h.on (new_b wx (.cells (madeCells #[.int .i64 0] n) 2))
  have hs := h.bel.size
  refine ⟨g.bel, g.gc, (fun b' e => by cases e; exact ⟨hs, zero_row wx n hn⟩), g.gy, g.gz, (fun b' d' e' h5 h6 => ?_), g.cy, g.cz, (fun b' e' h5 h6 => ?_), (fun b' e' h5 h6 => ?_), g.yz⟩
  · cases h6; have := (h.gc _ _ h5).2.lt; omega
  · cases h5; have := (h.gy _ h6).2.lt; omega
  · cases h5; have := Ch.blk_lt (h.gz _ h6).2; omega
theorem Got.mky {w2 wx wy : World} {vars : List Int} {n b : Nat} {c : Option (Nat × Nat)} {x z : Option Nat} (h : Got w2 wx vars n c x none z) (hn : n ≤ 24) (e1 : wy = wx.alloc (.cells (madeCells #[.int .i64 0] n) 2)) (e2 : b = wx.heap.size) : Got w2 wy vars n c x (some b) z := by
  subst e1 e2
  have g := h.on (new_b wx (.cells (madeCells #[.int .i64 0] n) 2))
  have hs := h.bel.size
  refine ⟨g.bel, g.gc, g.gx, (fun b' e => by cases e; exact ⟨hs, zero_row wx n hn⟩), g.gz, g.cx, (fun b' d' e' h5 h6 => ?_), g.cz, (fun b' e' h5 h6 => ?_), g.xz, (fun b' e' h5 h6 => ?_)⟩
  · cases h6; have := (h.gc _ _ h5).2.lt; omega
  · cases h6; have := (h.gx _ h5).2.lt; omega
  · cases h5; have := Ch.blk_lt (h.gz _ h6).2; omega
theorem Got.mkz {w2 wx wy : World} {vars : List Int} {n b : Nat} {c : Option (Nat × Nat)} {x y : Option Nat} (h : Got w2 wx vars n c x y none) (e1 : wy = wx.alloc (.cells #[.int .i64 0, .int .i64 0, .slice none 0 0, .slice none 0 0, .slice none 0 0] 26)) (e2 : b = wx.heap.size) : Got w2 wy vars n c x y (some b) := by
  subst e1 e2
  have g := h.on (new_b wx (.cells #[.int .i64 0, .int .i64 0, .slice none 0 0, .slice none 0 0, .slice none 0 0] 26))
  have hs := h.bel.size
  refine ⟨g.bel, g.gc, g.gx, g.gy, (fun b' e => by cases e; exact ⟨hs, Ch.new_blk _ _⟩), g.cx, g.cy, (fun b' d' e' h5 h6 => ?_), g.xy, (fun b' e' h5 h6 => ?_), (fun b' e' h5 h6 => ?_)⟩
  · cases h6; have := (h.gc _ _ h5).2.lt; omega
  · cases h6; have := (h.gx _ h5).2.lt; omega
  · cases h6; have := (h.gy _ h5).2.lt; omega
theorem Got.cells {w2 wx : World} {vars : List Int} {n b : Nat} {c : Option (Nat × Nat)} {x y : Option Nat} (h : Got w2 wx vars n c x y (some b)) :
    (wx.frozen? ⟨b, 0, none⟩ = false ∧ wx.frozen? ⟨b, 1, none⟩ = false ∧ wx.frozen? ⟨b, 2, none⟩ = false ∧ wx.frozen? ⟨b, 3, none⟩ = false ∧ wx.frozen? ⟨b, 4, none⟩ = false) ∧ (wx.cell? ⟨b, 0, none⟩ = some (.int .i64 0) ∧ wx.cell? ⟨b, 1, none⟩ = some (.int .i64 0) ∧ wx.cell? ⟨b, 2, none⟩ = some (.slice none 0 0) ∧ wx.cell? ⟨b, 3, none⟩ = some (.slice none 0 0) ∧ wx.cell? ⟨b, 4, none⟩ = some (.slice none 0 0)) ∧ b < wx.heap.size := by
  have g := (h.gz b rfl).2
  exact ⟨⟨Ch.blk_free g 0, Ch.blk_free g 1, Ch.blk_free g 2, Ch.blk_free g 3, Ch.blk_free g 4⟩, ⟨Ch.blk_cell g 0, Ch.blk_cell g 1, Ch.blk_cell g 2, Ch.blk_cell g 3, Ch.blk_cell g 4⟩, Ch.blk_lt g⟩
theorem Got.fin {w2 wx : World} {v : Value} {ss : List StepD} {vars : List Int} {now : Int} {b d e f g : Nat} (h : Got w2 wx vars ss.length (some (b, d)) (some e) (some f) (some g)) (h4 : vars.length = 4) (hst : St.At w2 0 v ss) :
    SAt w2 (((((wx.setCell ⟨g, 0, none⟩ (.int .i64 1)).setCell ⟨g, 1, none⟩ (.int .i64 now)).setCell ⟨g, 2, none⟩ (.slice (some ⟨b, 0, none⟩) vars.length d)).setCell ⟨g, 3, none⟩ (.slice (some ⟨e, 0, none⟩) ss.length ss.length)).setCell ⟨g, 4, none⟩ (.slice (some ⟨f, 0, none⟩) ss.length ss.length)) ⟨g, e, f, b, ss.length, ss.length, d⟩ v ss ⟨1, now, vars, fun _ => 0, fun _ => 0⟩ := by
  obtain ⟨b1, b2⟩ := h.gc _ _ rfl
  obtain ⟨e1, e2⟩ := h.gx _ rfl
  obtain ⟨f1, f2⟩ := h.gy _ rfl
  obtain ⟨g1, g2⟩ := h.gz _ rfl
  have n1 := h.cx _ _ _ rfl rfl
  have n2 := h.cy _ _ _ rfl rfl
  have n3 := h.cz _ _ _ rfl rfl
  have n4 := h.xy _ _ rfl rfl
  have n5 := h.xz _ _ rfl rfl
  have n6 := h.yz _ _ rfl rfl
  have oth : ∀ k, k ≠ g → (((((wx.setCell ⟨g, 0, none⟩ (.int .i64 1)).setCell ⟨g, 1, none⟩ (.int .i64 now)).setCell ⟨g, 2, none⟩ (.slice (some ⟨b, 0, none⟩) vars.length d)).setCell ⟨g, 3, none⟩ (.slice (some ⟨e, 0, none⟩) ss.length ss.length)).setCell ⟨g, 4, none⟩ (.slice (some ⟨f, 0, none⟩) ss.length ss.length)).heap[k]? = wx.heap[k]? := fun k hk => by
    rw [Below.heap_setCell _ _ _ _ hk, Below.heap_setCell _ _ _ _ hk, Below.heap_setCell _ _ _ _ hk, Below.heap_setCell _ _ _ _ hk, Below.heap_setCell _ _ _ _ hk]
  rw [h4] at b2 oth ⊢
  refine ⟨hst, Ch.below5 h.bel g1 _ _ _ _ _, g1, e1, f1, b1, Ne.symm n5, Ne.symm n6, Ne.symm n3, n4, Ne.symm n1, Ne.symm n2, Ch.set5 g2 _ _ _ _ _, e2.kept (oth _ n5), f2.kept (oth _ n6), b2.kept (oth _ n3), h4⟩
set_option maxRecDepth 100000 in
set_option maxHeartbeats 16000000 in
theorem specStartChart (B : Nat) (ss : List StepD) (vars : List Int) (now : Int) (v vv : Value) (w : World) (hsm : St.Small 1048576 ss) (hlv : vars.length ≤ 1048576) (ha : St.At w B v ss) (hv : Nu.At w 0 vv vars) :
    Calls Tryz.prog 8 #[v, vv, .int .i64 now] w (SPost (startC ss vars now) (startR ss vars now) w) := by
  obtain ⟨a, cap, rfl⟩ := ha.slice
  obtain ⟨av, cv, rfl⟩ := hv.slice
  obtain ⟨w0, e0⟩ : ∃ w0, w0 = w.alloc (.cells #[.int .i64 0, .int .i64 0, .int .i64 0, .slice none 0 0, .slice none 0 0, .slice none 0 0] 28) := ⟨_, rfl⟩
  have hb0 : Below w.heap.size w w0 := by rw [e0]; exact (Below.refl _ w).alloc (Nat.le_refl _) _
  have hk0 : w0.heap[w.heap.size]? = some (.cells #[.int .i64 0, .int .i64 0, .int .i64 0, .slice none 0 0, .slice none 0 0, .slice none 0 0] 28) := by rw [e0]; exact Ch.new_blk _ _
  have HF := hid (specFault B ss _ w0 hsm (ha.below hb0))
  have HA0 := hid ((ha.mono (Nat.zero_le _)).below hb0)
  have HVV := hid (hv.below hb0)
  have HLV := hid hlv
  have HB0 := hid hb0
  clear ha hv hsm hb0 hlv
  go_enter Tryz.func8, Tryz.ntmps8
  go_wp2_with fail
  rw [← e0]
  clear e0
  refine HF.out.mono ?_
  rintro e w1 ⟨rfl, hb1⟩
  have hk1 := rb_b hk0 hb1
  have HB1 := hid (HB0.out.trans (hb1.mono HB0.out.size))
  have HA1 := hid (HA0.out.below hb1)
  have HV1 := hid (HVV.out.below hb1)
  clear HF HB0 hb1 hk0 HA0 HVV
  by_cases hp : pFault ss = 0
  · have b0 : (pFault ss != 0) = false := by simp [hp]
    have HP := hid hp
    have hl : ss.length ≤ 24 := by have := (of_p hp).1; omega
    have hpos : 0 < ss.length := by have := (of_p hp).1; omega
    have HK1 := hid hk1
    have HVF := hid (Ex.specVarsB 0 vars _ w1 HLV.out HV1.out)
    clear hp hk1
    go_wp2_with fail
    refine HVF.out.mono ?_
    rintro e w2 ⟨rfl, hb2⟩
    have hk2 := rb_b HK1.out hb2
    have HB2 := hid (HB1.out.trans (hb2.mono HB1.out.size))
    have HA2 := hid (HA1.out.below hb2)
    have HV2 := hid (HV1.out.below hb2)
    clear HVF hb2 HB1 HA1 HV1 HK1
    by_cases hvf : vFault vars = 0
    · have b2 : (vFault vars != 0) = false := by simp [hvf]
      have HVF := hid hvf
      have H4 := hid (Ex.of_v hvf).1
      have HTM := hid (Ks.specTime now w2)
      clear hvf
      cases hin : inR now 0 1000000
      · have HX := hid (s_now (vars := vars) HP.out HVF.out hin)
        rw [hin] at HTM
        clear hin
        generalize startC ss vars now = tc at *
        generalize startR ss vars now = tr at *
        have HBD := hid (specBad (3) w2)
        go_wp2_with (first | (go_at_call 33; refine HTM.out.mono ?_; rintro e w9 ⟨rfl, hw9⟩; replace hw9 := hw9.symm; subst hw9))
        refine HBD.out.mono ?_
        rintro e wz ⟨rfl, hbz⟩
        have hkz := rb_b hk2 hbz
        have HBZ := hid (HB2.out.trans (hbz.mono HB2.out.size))
        have f0 := Ch.blk_free hkz 0
        have f1 := Ch.blk_free hkz 1
        have f2 := Ch.blk_free hkz 2
        have f3 := Ch.blk_free hkz 3
        have f4 := Ch.blk_free hkz 4
        have f5 := Ch.blk_free hkz 5
        have g0 : wz.cell? ⟨w.heap.size, 0, none⟩ = some (.int .i64 0) := Ch.blk_cell hkz 0
        have g1 : wz.cell? ⟨w.heap.size, 1, none⟩ = some (.int .i64 0) := Ch.blk_cell hkz 1
        have g2 : wz.cell? ⟨w.heap.size, 2, none⟩ = some (.int .i64 0) := Ch.blk_cell hkz 2
        have g3 : wz.cell? ⟨w.heap.size, 3, none⟩ = some (.slice none 0 0) := Ch.blk_cell hkz 3
        have g4 : wz.cell? ⟨w.heap.size, 4, none⟩ = some (.slice none 0 0) := Ch.blk_cell hkz 4
        have g5 : wz.cell? ⟨w.heap.size, 5, none⟩ = some (.slice none 0 0) := Ch.blk_cell hkz 5
        have gl := Ch.blk_lt hkz
        clear hbz
        go_wp2
        refine bodyPost_ret (results_cell_row Tryz.results8 _ _ w.heap.size 28 #[.int .i64 (3), .int .i64 0, .int .i64 0, .slice none 0 0, .slice none 0 0, .slice none 0 0] (0, 0) _ rfl (set6 hkz _ _ _ _ _ _) Tryz.underlying28 rfl info6) rfl ?_
        exact SPost.bad HX.out HBZ.out (Nat.le_refl _) _ _ _ _ _ _
      · have HX := hid (s_ok (vars := vars) HP.out HVF.out hin)
        have HOK : Hid (Ok ⟨1, now, vars, fun _ => 0, fun _ => 0⟩) := hid ⟨HVF.out, (Ex.inR_iff.1 hin).1, (Ex.inR_iff.1 hin).2⟩
        rw [hin] at HTM
        clear hin
        have HK2 := hid hk2
        have lW := Ch.blk_lt hk2
        clear hk2
        have HLI := hid (fun wx (hb : Below w2.heap.size w2 wx) => specInts 0 vars _ wx HLV.out (HV2.out.below hb))
        have HMK := hid (fun wx => Nd.make_row (P := Tryz.prog) Tryz.underlying23 Ex.infoI64 ss.length (by omega) (by omega) wx)
        go_upto_region 9 with (go_at_call 33; refine HTM.out.mono ?_; rintro e w9 ⟨rfl, hw9⟩; replace hw9 := hw9.symm; subst hw9)
        have hmk := HMK.out
        clear HMK
        have G0 := hid (Got.start w2 vars ss.length)
        go_cut [9] from 26 (fun x wx => ∃ P : Pos, x = .pointer (some ⟨P.R, 0, none⟩) ∧ Hid (SAt w2 wx P (.slice a ss.length cap) ss ⟨1, now, vars, fun _ => 0, fun _ => 0⟩))
        case first =>
          refine wp_region_held_drew (S := fun wx => True) (by kernel_rfl) trivial (fun hHeld => ?_)
          refine wpAnyH_take (i := 0) (v := .int .i64 now) rfl (by kernel_rfl) (by kernel_rfl) (by kernel_rfl) (fun _ _ _ h => h) (Or.inl ⟨by kernel_rfl, by intro w hSw; (try dsimp only at hSw); go_simp⟩) (by assumption) ?_
          simp only [Act.put, List.setIfInBounds_toArray, List.set_cons_zero, List.set_cons_succ]
          refine wpAnyH_take (i := 1) (v := .slice av vars.length cv) rfl (by kernel_rfl) (by kernel_rfl) (by kernel_rfl) (fun _ _ _ h => h) (Or.inl ⟨by kernel_rfl, by intro w hSw; (try dsimp only at hSw); go_simp⟩) (by assumption) ?_
          simp only [Act.put, List.setIfInBounds_toArray, List.set_cons_zero, List.set_cons_succ]
          refine wpAnyH_take (i := 3) (v := .slice a ss.length cap) rfl (by kernel_rfl) (by kernel_rfl) (by kernel_rfl) (fun _ _ _ h => h) (Or.inl ⟨by kernel_rfl, by intro w hSw; (try dsimp only at hSw); go_simp⟩) (by assumption) ?_
          simp only [Act.put, List.setIfInBounds_toArray, List.set_cons_zero, List.set_cons_succ]
          refine wpAnyH_take (i := 6) (v := .slice a ss.length cap) rfl (by kernel_rfl) (by kernel_rfl) (by kernel_rfl) (fun _ _ _ h => h) (Or.inl ⟨by kernel_rfl, by intro w hSw; (try dsimp only at hSw); go_simp⟩) (by assumption) ?_
          simp only [Act.put, List.setIfInBounds_toArray, List.set_cons_zero, List.set_cons_succ]
          refine wpAnyH_take (i := 4) (v := .int .i64 (ss.length : Int)) rfl (by kernel_rfl) (by kernel_rfl) (by kernel_rfl) (fun _ _ _ h => h) (Or.inl ⟨by kernel_rfl, by intro w hSw; (try dsimp only at hSw); go_simp⟩) (by assumption) ?_
          simp only [Act.put, List.setIfInBounds_toArray, List.set_cons_zero, List.set_cons_succ]
          refine wpAnyH_take (i := 7) (v := .int .i64 (ss.length : Int)) rfl (by kernel_rfl) (by kernel_rfl) (by kernel_rfl) (fun _ _ _ h => h) (Or.inl ⟨by kernel_rfl, by intro w hSw; (try dsimp only at hSw); go_simp⟩) (by assumption) ?_
          simp only [Act.put, List.setIfInBounds_toArray, List.set_cons_zero, List.set_cons_succ]
          generalize w2.drew = q0 at *
          refine wpAnyH_ready (rs := [2, 5, 8, 10]) (by kernel_rfl) (by simp) ?_
          refine (AllReadyH.cons rfl (fun K hK => ?_) (AllReadyH.cons rfl (fun K hK => ?_) (AllReadyH.cons rfl (fun K hK => ?_) (AllReadyH.cons rfl (fun K hK => ?_) AllReadyH.nil))))
          · go_simp
            go_at_call 34
            refine (HLI.out _ G0.out.bel).mono ?_
            rintro e q1 ⟨⟨b, d, rfl, h1, h2⟩, hb⟩
            have G1 := hid (G0.out.call h1 h2 hb)
            clear h1 h2 hb
            go_wp2_with fail
            refine hK.out _ _ trivial (fun hHeld => ?_)
            clear hK K G0
            try simp only [Act.put, List.setIfInBounds_toArray, List.set_cons_zero, List.set_cons_succ]
            refine wpAnyH_ready (rs := [5, 8, 10]) (by kernel_rfl) (by simp) ?_
            refine (AllReadyH.cons rfl (fun K hK => ?_) (AllReadyH.cons rfl (fun K hK => ?_) (AllReadyH.cons rfl (fun K hK => ?_) AllReadyH.nil)))
            · go_simp
              obtain ⟨q2, eq2⟩ : ∃ q2, q2 = q1.alloc (.cells (madeCells #[.int .i64 0] ss.length) 2) := ⟨_, rfl⟩
              obtain ⟨kx, fx⟩ : ∃ kx, kx = q1.heap.size := ⟨_, rfl⟩
              rw [← eq2, ← fx]
              have G2 := hid (G1.out.mkx hl eq2 fx)
              clear eq2 fx
              refine hK.out _ _ trivial (fun hHeld => ?_)
              clear hK K G1
              try simp only [Act.put, List.setIfInBounds_toArray, List.set_cons_zero, List.set_cons_succ]
              refine wpAnyH_ready (rs := [8, 10]) (by kernel_rfl) (by simp) ?_
              refine (AllReadyH.cons rfl (fun K hK => ?_) (AllReadyH.cons rfl (fun K hK => ?_) AllReadyH.nil))
              · go_simp
                obtain ⟨q3, eq3⟩ : ∃ q3, q3 = q2.alloc (.cells (madeCells #[.int .i64 0] ss.length) 2) := ⟨_, rfl⟩
                obtain ⟨ky, fy⟩ : ∃ ky, ky = q2.heap.size := ⟨_, rfl⟩
                rw [← eq3, ← fy]
                have G3 := hid (G2.out.mky hl eq3 fy)
                clear eq3 fy
                refine hK.out _ _ trivial (fun hHeld => ?_)
                clear hK K G2
                try simp only [Act.put, List.setIfInBounds_toArray, List.set_cons_zero, List.set_cons_succ]
                refine wpAnyH_take (i := 9) (v := .agg #[.int .i64 1, .int .i64 now, .slice (some ⟨b, 0, none⟩) vars.length d, .slice (some ⟨kx, 0, none⟩) ss.length ss.length, .slice (some ⟨ky, 0, none⟩) ss.length ss.length]) rfl (by kernel_rfl) (by kernel_rfl) (by kernel_rfl) (fun _ _ _ h => h) (Or.inl ⟨by kernel_rfl, by intro w hSw; (try dsimp only at hSw); go_simp⟩) (by assumption) ?_
                simp only [Act.put, List.setIfInBounds_toArray, List.set_cons_zero, List.set_cons_succ]
                refine wpAnyH_ready (rs := [10]) (by kernel_rfl) (by simp) ?_
                refine (AllReadyH.cons rfl (fun K hK => ?_) AllReadyH.nil)
                go_simp
                obtain ⟨q4, eq4⟩ : ∃ q4, q4 = q3.alloc (.cells #[.int .i64 0, .int .i64 0, .slice none 0 0, .slice none 0 0, .slice none 0 0] 26) := ⟨_, rfl⟩
                obtain ⟨kz, fz⟩ : ∃ kz, kz = q3.heap.size := ⟨_, rfl⟩
                rw [← eq4, ← fz]
                have G4 := hid (G3.out.mkz eq4 fz)
                clear eq4 fz
                refine hK.out _ _ trivial (fun hHeld => ?_)
                clear hK K G3
                try simp only [Act.put, List.setIfInBounds_toArray, List.set_cons_zero, List.set_cons_succ]
                obtain ⟨⟨t0, t1, t2, t3, t4⟩, ⟨z0, z1, z2, z3, z4⟩, lz⟩ := G4.out.cells
                refine wpAnyH_ready (rs := [11]) (by kernel_rfl) (by simp) ?_
                refine AllReadyH.cons rfl (fun K hK => ?_) AllReadyH.nil
                go_simp
                refine hK.out _ _ trivial (fun hHeld => ?_)
                clear hK K
                try simp only [Act.put, List.setIfInBounds_toArray, List.set_cons_zero, List.set_cons_succ]
                refine wpAnyH_done (by kernel_rfl) ?_ _
                go_wp2_with fail
                go_meet
                exact ⟨⟨kz, kx, ky, b, ss.length, ss.length, d⟩, rfl, hid (G4.out.fin H4.out HA2.out)⟩
              · go_simp
                obtain ⟨q3, eq3⟩ : ∃ q3, q3 = q2.alloc (.cells #[.int .i64 0, .int .i64 0, .slice none 0 0, .slice none 0 0, .slice none 0 0] 26) := ⟨_, rfl⟩
                obtain ⟨kz, fz⟩ : ∃ kz, kz = q2.heap.size := ⟨_, rfl⟩
                rw [← eq3, ← fz]
                have G3 := hid (G2.out.mkz eq3 fz)
                clear eq3 fz
                refine hK.out _ _ trivial (fun hHeld => ?_)
                clear hK K G2
                try simp only [Act.put, List.setIfInBounds_toArray, List.set_cons_zero, List.set_cons_succ]
                refine wpAnyH_ready (rs := [8]) (by kernel_rfl) (by simp) ?_
                refine (AllReadyH.cons rfl (fun K hK => ?_) AllReadyH.nil)
                go_simp
                obtain ⟨q4, eq4⟩ : ∃ q4, q4 = q3.alloc (.cells (madeCells #[.int .i64 0] ss.length) 2) := ⟨_, rfl⟩
                obtain ⟨ky, fy⟩ : ∃ ky, ky = q3.heap.size := ⟨_, rfl⟩
                rw [← eq4, ← fy]
                have G4 := hid (G3.out.mky hl eq4 fy)
                clear eq4 fy
                refine hK.out _ _ trivial (fun hHeld => ?_)
                clear hK K G3
                try simp only [Act.put, List.setIfInBounds_toArray, List.set_cons_zero, List.set_cons_succ]
                refine wpAnyH_take (i := 9) (v := .agg #[.int .i64 1, .int .i64 now, .slice (some ⟨b, 0, none⟩) vars.length d, .slice (some ⟨kx, 0, none⟩) ss.length ss.length, .slice (some ⟨ky, 0, none⟩) ss.length ss.length]) rfl (by kernel_rfl) (by kernel_rfl) (by kernel_rfl) (fun _ _ _ h => h) (Or.inl ⟨by kernel_rfl, by intro w hSw; (try dsimp only at hSw); go_simp⟩) (by assumption) ?_
                simp only [Act.put, List.setIfInBounds_toArray, List.set_cons_zero, List.set_cons_succ]
                obtain ⟨⟨t0, t1, t2, t3, t4⟩, ⟨z0, z1, z2, z3, z4⟩, lz⟩ := G4.out.cells
                refine wpAnyH_ready (rs := [11]) (by kernel_rfl) (by simp) ?_
                refine AllReadyH.cons rfl (fun K hK => ?_) AllReadyH.nil
                go_simp
                refine hK.out _ _ trivial (fun hHeld => ?_)
                clear hK K
                try simp only [Act.put, List.setIfInBounds_toArray, List.set_cons_zero, List.set_cons_succ]
                refine wpAnyH_done (by kernel_rfl) ?_ _
                go_wp2_with fail
                go_meet
                exact ⟨⟨kz, kx, ky, b, ss.length, ss.length, d⟩, rfl, hid (G4.out.fin H4.out HA2.out)⟩
            · go_simp
              obtain ⟨q2, eq2⟩ : ∃ q2, q2 = q1.alloc (.cells (madeCells #[.int .i64 0] ss.length) 2) := ⟨_, rfl⟩
              obtain ⟨ky, fy⟩ : ∃ ky, ky = q1.heap.size := ⟨_, rfl⟩
              rw [← eq2, ← fy]
              have G2 := hid (G1.out.mky hl eq2 fy)
              clear eq2 fy
              refine hK.out _ _ trivial (fun hHeld => ?_)
              clear hK K G1
              try simp only [Act.put, List.setIfInBounds_toArray, List.set_cons_zero, List.set_cons_succ]
              refine wpAnyH_ready (rs := [5, 10]) (by kernel_rfl) (by simp) ?_
              refine (AllReadyH.cons rfl (fun K hK => ?_) (AllReadyH.cons rfl (fun K hK => ?_) AllReadyH.nil))
              · go_simp
                obtain ⟨q3, eq3⟩ : ∃ q3, q3 = q2.alloc (.cells (madeCells #[.int .i64 0] ss.length) 2) := ⟨_, rfl⟩
                obtain ⟨kx, fx⟩ : ∃ kx, kx = q2.heap.size := ⟨_, rfl⟩
                rw [← eq3, ← fx]
                have G3 := hid (G2.out.mkx hl eq3 fx)
                clear eq3 fx
                refine hK.out _ _ trivial (fun hHeld => ?_)
                clear hK K G2
                try simp only [Act.put, List.setIfInBounds_toArray, List.set_cons_zero, List.set_cons_succ]
                refine wpAnyH_take (i := 9) (v := .agg #[.int .i64 1, .int .i64 now, .slice (some ⟨b, 0, none⟩) vars.length d, .slice (some ⟨kx, 0, none⟩) ss.length ss.length, .slice (some ⟨ky, 0, none⟩) ss.length ss.length]) rfl (by kernel_rfl) (by kernel_rfl) (by kernel_rfl) (fun _ _ _ h => h) (Or.inl ⟨by kernel_rfl, by intro w hSw; (try dsimp only at hSw); go_simp⟩) (by assumption) ?_
                simp only [Act.put, List.setIfInBounds_toArray, List.set_cons_zero, List.set_cons_succ]
                refine wpAnyH_ready (rs := [10]) (by kernel_rfl) (by simp) ?_
                refine (AllReadyH.cons rfl (fun K hK => ?_) AllReadyH.nil)
                go_simp
                obtain ⟨q4, eq4⟩ : ∃ q4, q4 = q3.alloc (.cells #[.int .i64 0, .int .i64 0, .slice none 0 0, .slice none 0 0, .slice none 0 0] 26) := ⟨_, rfl⟩
                obtain ⟨kz, fz⟩ : ∃ kz, kz = q3.heap.size := ⟨_, rfl⟩
                rw [← eq4, ← fz]
                have G4 := hid (G3.out.mkz eq4 fz)
                clear eq4 fz
                refine hK.out _ _ trivial (fun hHeld => ?_)
                clear hK K G3
                try simp only [Act.put, List.setIfInBounds_toArray, List.set_cons_zero, List.set_cons_succ]
                obtain ⟨⟨t0, t1, t2, t3, t4⟩, ⟨z0, z1, z2, z3, z4⟩, lz⟩ := G4.out.cells
                refine wpAnyH_ready (rs := [11]) (by kernel_rfl) (by simp) ?_
                refine AllReadyH.cons rfl (fun K hK => ?_) AllReadyH.nil
                go_simp
                refine hK.out _ _ trivial (fun hHeld => ?_)
                clear hK K
                try simp only [Act.put, List.setIfInBounds_toArray, List.set_cons_zero, List.set_cons_succ]
                refine wpAnyH_done (by kernel_rfl) ?_ _
                go_wp2_with fail
                go_meet
                exact ⟨⟨kz, kx, ky, b, ss.length, ss.length, d⟩, rfl, hid (G4.out.fin H4.out HA2.out)⟩
              · go_simp
                obtain ⟨q3, eq3⟩ : ∃ q3, q3 = q2.alloc (.cells #[.int .i64 0, .int .i64 0, .slice none 0 0, .slice none 0 0, .slice none 0 0] 26) := ⟨_, rfl⟩
                obtain ⟨kz, fz⟩ : ∃ kz, kz = q2.heap.size := ⟨_, rfl⟩
                rw [← eq3, ← fz]
                have G3 := hid (G2.out.mkz eq3 fz)
                clear eq3 fz
                refine hK.out _ _ trivial (fun hHeld => ?_)
                clear hK K G2
                try simp only [Act.put, List.setIfInBounds_toArray, List.set_cons_zero, List.set_cons_succ]
                refine wpAnyH_ready (rs := [5]) (by kernel_rfl) (by simp) ?_
                refine (AllReadyH.cons rfl (fun K hK => ?_) AllReadyH.nil)
                go_simp
                obtain ⟨q4, eq4⟩ : ∃ q4, q4 = q3.alloc (.cells (madeCells #[.int .i64 0] ss.length) 2) := ⟨_, rfl⟩
                obtain ⟨kx, fx⟩ : ∃ kx, kx = q3.heap.size := ⟨_, rfl⟩
                rw [← eq4, ← fx]
                have G4 := hid (G3.out.mkx hl eq4 fx)
                clear eq4 fx
                refine hK.out _ _ trivial (fun hHeld => ?_)
                clear hK K G3
                try simp only [Act.put, List.setIfInBounds_toArray, List.set_cons_zero, List.set_cons_succ]
                refine wpAnyH_take (i := 9) (v := .agg #[.int .i64 1, .int .i64 now, .slice (some ⟨b, 0, none⟩) vars.length d, .slice (some ⟨kx, 0, none⟩) ss.length ss.length, .slice (some ⟨ky, 0, none⟩) ss.length ss.length]) rfl (by kernel_rfl) (by kernel_rfl) (by kernel_rfl) (fun _ _ _ h => h) (Or.inl ⟨by kernel_rfl, by intro w hSw; (try dsimp only at hSw); go_simp⟩) (by assumption) ?_
                simp only [Act.put, List.setIfInBounds_toArray, List.set_cons_zero, List.set_cons_succ]
                obtain ⟨⟨t0, t1, t2, t3, t4⟩, ⟨z0, z1, z2, z3, z4⟩, lz⟩ := G4.out.cells
                refine wpAnyH_ready (rs := [11]) (by kernel_rfl) (by simp) ?_
                refine AllReadyH.cons rfl (fun K hK => ?_) AllReadyH.nil
                go_simp
                refine hK.out _ _ trivial (fun hHeld => ?_)
                clear hK K
                try simp only [Act.put, List.setIfInBounds_toArray, List.set_cons_zero, List.set_cons_succ]
                refine wpAnyH_done (by kernel_rfl) ?_ _
                go_wp2_with fail
                go_meet
                exact ⟨⟨kz, kx, ky, b, ss.length, ss.length, d⟩, rfl, hid (G4.out.fin H4.out HA2.out)⟩
            · go_simp
              obtain ⟨q2, eq2⟩ : ∃ q2, q2 = q1.alloc (.cells #[.int .i64 0, .int .i64 0, .slice none 0 0, .slice none 0 0, .slice none 0 0] 26) := ⟨_, rfl⟩
              obtain ⟨kz, fz⟩ : ∃ kz, kz = q1.heap.size := ⟨_, rfl⟩
              rw [← eq2, ← fz]
              have G2 := hid (G1.out.mkz eq2 fz)
              clear eq2 fz
              refine hK.out _ _ trivial (fun hHeld => ?_)
              clear hK K G1
              try simp only [Act.put, List.setIfInBounds_toArray, List.set_cons_zero, List.set_cons_succ]
              refine wpAnyH_ready (rs := [5, 8]) (by kernel_rfl) (by simp) ?_
              refine (AllReadyH.cons rfl (fun K hK => ?_) (AllReadyH.cons rfl (fun K hK => ?_) AllReadyH.nil))
              · go_simp
                obtain ⟨q3, eq3⟩ : ∃ q3, q3 = q2.alloc (.cells (madeCells #[.int .i64 0] ss.length) 2) := ⟨_, rfl⟩
                obtain ⟨kx, fx⟩ : ∃ kx, kx = q2.heap.size := ⟨_, rfl⟩
                rw [← eq3, ← fx]
                have G3 := hid (G2.out.mkx hl eq3 fx)
                clear eq3 fx
                refine hK.out _ _ trivial (fun hHeld => ?_)
                clear hK K G2
                try simp only [Act.put, List.setIfInBounds_toArray, List.set_cons_zero, List.set_cons_succ]
                refine wpAnyH_ready (rs := [8]) (by kernel_rfl) (by simp) ?_
                refine (AllReadyH.cons rfl (fun K hK => ?_) AllReadyH.nil)
                go_simp
                obtain ⟨q4, eq4⟩ : ∃ q4, q4 = q3.alloc (.cells (madeCells #[.int .i64 0] ss.length) 2) := ⟨_, rfl⟩
                obtain ⟨ky, fy⟩ : ∃ ky, ky = q3.heap.size := ⟨_, rfl⟩
                rw [← eq4, ← fy]
                have G4 := hid (G3.out.mky hl eq4 fy)
                clear eq4 fy
                refine hK.out _ _ trivial (fun hHeld => ?_)
                clear hK K G3
                try simp only [Act.put, List.setIfInBounds_toArray, List.set_cons_zero, List.set_cons_succ]
                refine wpAnyH_take (i := 9) (v := .agg #[.int .i64 1, .int .i64 now, .slice (some ⟨b, 0, none⟩) vars.length d, .slice (some ⟨kx, 0, none⟩) ss.length ss.length, .slice (some ⟨ky, 0, none⟩) ss.length ss.length]) rfl (by kernel_rfl) (by kernel_rfl) (by kernel_rfl) (fun _ _ _ h => h) (Or.inl ⟨by kernel_rfl, by intro w hSw; (try dsimp only at hSw); go_simp⟩) (by assumption) ?_
                simp only [Act.put, List.setIfInBounds_toArray, List.set_cons_zero, List.set_cons_succ]
                obtain ⟨⟨t0, t1, t2, t3, t4⟩, ⟨z0, z1, z2, z3, z4⟩, lz⟩ := G4.out.cells
                refine wpAnyH_ready (rs := [11]) (by kernel_rfl) (by simp) ?_
                refine AllReadyH.cons rfl (fun K hK => ?_) AllReadyH.nil
                go_simp
                refine hK.out _ _ trivial (fun hHeld => ?_)
                clear hK K
                try simp only [Act.put, List.setIfInBounds_toArray, List.set_cons_zero, List.set_cons_succ]
                refine wpAnyH_done (by kernel_rfl) ?_ _
                go_wp2_with fail
                go_meet
                exact ⟨⟨kz, kx, ky, b, ss.length, ss.length, d⟩, rfl, hid (G4.out.fin H4.out HA2.out)⟩
              · go_simp
                obtain ⟨q3, eq3⟩ : ∃ q3, q3 = q2.alloc (.cells (madeCells #[.int .i64 0] ss.length) 2) := ⟨_, rfl⟩
                obtain ⟨ky, fy⟩ : ∃ ky, ky = q2.heap.size := ⟨_, rfl⟩
                rw [← eq3, ← fy]
                have G3 := hid (G2.out.mky hl eq3 fy)
                clear eq3 fy
                refine hK.out _ _ trivial (fun hHeld => ?_)
                clear hK K G2
                try simp only [Act.put, List.setIfInBounds_toArray, List.set_cons_zero, List.set_cons_succ]
                refine wpAnyH_ready (rs := [5]) (by kernel_rfl) (by simp) ?_
                refine (AllReadyH.cons rfl (fun K hK => ?_) AllReadyH.nil)
                go_simp
                obtain ⟨q4, eq4⟩ : ∃ q4, q4 = q3.alloc (.cells (madeCells #[.int .i64 0] ss.length) 2) := ⟨_, rfl⟩
                obtain ⟨kx, fx⟩ : ∃ kx, kx = q3.heap.size := ⟨_, rfl⟩
                rw [← eq4, ← fx]
                have G4 := hid (G3.out.mkx hl eq4 fx)
                clear eq4 fx
                refine hK.out _ _ trivial (fun hHeld => ?_)
                clear hK K G3
                try simp only [Act.put, List.setIfInBounds_toArray, List.set_cons_zero, List.set_cons_succ]
                refine wpAnyH_take (i := 9) (v := .agg #[.int .i64 1, .int .i64 now, .slice (some ⟨b, 0, none⟩) vars.length d, .slice (some ⟨kx, 0, none⟩) ss.length ss.length, .slice (some ⟨ky, 0, none⟩) ss.length ss.length]) rfl (by kernel_rfl) (by kernel_rfl) (by kernel_rfl) (fun _ _ _ h => h) (Or.inl ⟨by kernel_rfl, by intro w hSw; (try dsimp only at hSw); go_simp⟩) (by assumption) ?_
                simp only [Act.put, List.setIfInBounds_toArray, List.set_cons_zero, List.set_cons_succ]
                obtain ⟨⟨t0, t1, t2, t3, t4⟩, ⟨z0, z1, z2, z3, z4⟩, lz⟩ := G4.out.cells
                refine wpAnyH_ready (rs := [11]) (by kernel_rfl) (by simp) ?_
                refine AllReadyH.cons rfl (fun K hK => ?_) AllReadyH.nil
                go_simp
                refine hK.out _ _ trivial (fun hHeld => ?_)
                clear hK K
                try simp only [Act.put, List.setIfInBounds_toArray, List.set_cons_zero, List.set_cons_succ]
                refine wpAnyH_done (by kernel_rfl) ?_ _
                go_wp2_with fail
                go_meet
                exact ⟨⟨kz, kx, ky, b, ss.length, ss.length, d⟩, rfl, hid (G4.out.fin H4.out HA2.out)⟩
          · go_simp
            obtain ⟨q1, eq1⟩ : ∃ q1, q1 = q0.alloc (.cells (madeCells #[.int .i64 0] ss.length) 2) := ⟨_, rfl⟩
            obtain ⟨kx, fx⟩ : ∃ kx, kx = q0.heap.size := ⟨_, rfl⟩
            rw [← eq1, ← fx]
            have G1 := hid (G0.out.mkx hl eq1 fx)
            clear eq1 fx
            refine hK.out _ _ trivial (fun hHeld => ?_)
            clear hK K G0
            try simp only [Act.put, List.setIfInBounds_toArray, List.set_cons_zero, List.set_cons_succ]
            refine wpAnyH_ready (rs := [2, 8, 10]) (by kernel_rfl) (by simp) ?_
            refine (AllReadyH.cons rfl (fun K hK => ?_) (AllReadyH.cons rfl (fun K hK => ?_) (AllReadyH.cons rfl (fun K hK => ?_) AllReadyH.nil)))
            · go_simp
              go_at_call 34
              refine (HLI.out _ G1.out.bel).mono ?_
              rintro e q2 ⟨⟨b, d, rfl, h1, h2⟩, hb⟩
              have G2 := hid (G1.out.call h1 h2 hb)
              clear h1 h2 hb
              go_wp2_with fail
              refine hK.out _ _ trivial (fun hHeld => ?_)
              clear hK K G1
              try simp only [Act.put, List.setIfInBounds_toArray, List.set_cons_zero, List.set_cons_succ]
              refine wpAnyH_ready (rs := [8, 10]) (by kernel_rfl) (by simp) ?_
              refine (AllReadyH.cons rfl (fun K hK => ?_) (AllReadyH.cons rfl (fun K hK => ?_) AllReadyH.nil))
              · go_simp
                obtain ⟨q3, eq3⟩ : ∃ q3, q3 = q2.alloc (.cells (madeCells #[.int .i64 0] ss.length) 2) := ⟨_, rfl⟩
                obtain ⟨ky, fy⟩ : ∃ ky, ky = q2.heap.size := ⟨_, rfl⟩
                rw [← eq3, ← fy]
                have G3 := hid (G2.out.mky hl eq3 fy)
                clear eq3 fy
                refine hK.out _ _ trivial (fun hHeld => ?_)
                clear hK K G2
                try simp only [Act.put, List.setIfInBounds_toArray, List.set_cons_zero, List.set_cons_succ]
                refine wpAnyH_take (i := 9) (v := .agg #[.int .i64 1, .int .i64 now, .slice (some ⟨b, 0, none⟩) vars.length d, .slice (some ⟨kx, 0, none⟩) ss.length ss.length, .slice (some ⟨ky, 0, none⟩) ss.length ss.length]) rfl (by kernel_rfl) (by kernel_rfl) (by kernel_rfl) (fun _ _ _ h => h) (Or.inl ⟨by kernel_rfl, by intro w hSw; (try dsimp only at hSw); go_simp⟩) (by assumption) ?_
                simp only [Act.put, List.setIfInBounds_toArray, List.set_cons_zero, List.set_cons_succ]
                refine wpAnyH_ready (rs := [10]) (by kernel_rfl) (by simp) ?_
                refine (AllReadyH.cons rfl (fun K hK => ?_) AllReadyH.nil)
                go_simp
                obtain ⟨q4, eq4⟩ : ∃ q4, q4 = q3.alloc (.cells #[.int .i64 0, .int .i64 0, .slice none 0 0, .slice none 0 0, .slice none 0 0] 26) := ⟨_, rfl⟩
                obtain ⟨kz, fz⟩ : ∃ kz, kz = q3.heap.size := ⟨_, rfl⟩
                rw [← eq4, ← fz]
                have G4 := hid (G3.out.mkz eq4 fz)
                clear eq4 fz
                refine hK.out _ _ trivial (fun hHeld => ?_)
                clear hK K G3
                try simp only [Act.put, List.setIfInBounds_toArray, List.set_cons_zero, List.set_cons_succ]
                obtain ⟨⟨t0, t1, t2, t3, t4⟩, ⟨z0, z1, z2, z3, z4⟩, lz⟩ := G4.out.cells
                refine wpAnyH_ready (rs := [11]) (by kernel_rfl) (by simp) ?_
                refine AllReadyH.cons rfl (fun K hK => ?_) AllReadyH.nil
                go_simp
                refine hK.out _ _ trivial (fun hHeld => ?_)
                clear hK K
                try simp only [Act.put, List.setIfInBounds_toArray, List.set_cons_zero, List.set_cons_succ]
                refine wpAnyH_done (by kernel_rfl) ?_ _
                go_wp2_with fail
                go_meet
                exact ⟨⟨kz, kx, ky, b, ss.length, ss.length, d⟩, rfl, hid (G4.out.fin H4.out HA2.out)⟩
              · go_simp
                obtain ⟨q3, eq3⟩ : ∃ q3, q3 = q2.alloc (.cells #[.int .i64 0, .int .i64 0, .slice none 0 0, .slice none 0 0, .slice none 0 0] 26) := ⟨_, rfl⟩
                obtain ⟨kz, fz⟩ : ∃ kz, kz = q2.heap.size := ⟨_, rfl⟩
                rw [← eq3, ← fz]
                have G3 := hid (G2.out.mkz eq3 fz)
                clear eq3 fz
                refine hK.out _ _ trivial (fun hHeld => ?_)
                clear hK K G2
                try simp only [Act.put, List.setIfInBounds_toArray, List.set_cons_zero, List.set_cons_succ]
                refine wpAnyH_ready (rs := [8]) (by kernel_rfl) (by simp) ?_
                refine (AllReadyH.cons rfl (fun K hK => ?_) AllReadyH.nil)
                go_simp
                obtain ⟨q4, eq4⟩ : ∃ q4, q4 = q3.alloc (.cells (madeCells #[.int .i64 0] ss.length) 2) := ⟨_, rfl⟩
                obtain ⟨ky, fy⟩ : ∃ ky, ky = q3.heap.size := ⟨_, rfl⟩
                rw [← eq4, ← fy]
                have G4 := hid (G3.out.mky hl eq4 fy)
                clear eq4 fy
                refine hK.out _ _ trivial (fun hHeld => ?_)
                clear hK K G3
                try simp only [Act.put, List.setIfInBounds_toArray, List.set_cons_zero, List.set_cons_succ]
                refine wpAnyH_take (i := 9) (v := .agg #[.int .i64 1, .int .i64 now, .slice (some ⟨b, 0, none⟩) vars.length d, .slice (some ⟨kx, 0, none⟩) ss.length ss.length, .slice (some ⟨ky, 0, none⟩) ss.length ss.length]) rfl (by kernel_rfl) (by kernel_rfl) (by kernel_rfl) (fun _ _ _ h => h) (Or.inl ⟨by kernel_rfl, by intro w hSw; (try dsimp only at hSw); go_simp⟩) (by assumption) ?_
                simp only [Act.put, List.setIfInBounds_toArray, List.set_cons_zero, List.set_cons_succ]
                obtain ⟨⟨t0, t1, t2, t3, t4⟩, ⟨z0, z1, z2, z3, z4⟩, lz⟩ := G4.out.cells
                refine wpAnyH_ready (rs := [11]) (by kernel_rfl) (by simp) ?_
                refine AllReadyH.cons rfl (fun K hK => ?_) AllReadyH.nil
                go_simp
                refine hK.out _ _ trivial (fun hHeld => ?_)
                clear hK K
                try simp only [Act.put, List.setIfInBounds_toArray, List.set_cons_zero, List.set_cons_succ]
                refine wpAnyH_done (by kernel_rfl) ?_ _
                go_wp2_with fail
                go_meet
                exact ⟨⟨kz, kx, ky, b, ss.length, ss.length, d⟩, rfl, hid (G4.out.fin H4.out HA2.out)⟩
            · go_simp
              obtain ⟨q2, eq2⟩ : ∃ q2, q2 = q1.alloc (.cells (madeCells #[.int .i64 0] ss.length) 2) := ⟨_, rfl⟩
              obtain ⟨ky, fy⟩ : ∃ ky, ky = q1.heap.size := ⟨_, rfl⟩
              rw [← eq2, ← fy]
              have G2 := hid (G1.out.mky hl eq2 fy)
              clear eq2 fy
              refine hK.out _ _ trivial (fun hHeld => ?_)
              clear hK K G1
              try simp only [Act.put, List.setIfInBounds_toArray, List.set_cons_zero, List.set_cons_succ]
              refine wpAnyH_ready (rs := [2, 10]) (by kernel_rfl) (by simp) ?_
              refine (AllReadyH.cons rfl (fun K hK => ?_) (AllReadyH.cons rfl (fun K hK => ?_) AllReadyH.nil))
              · go_simp
                go_at_call 34
                refine (HLI.out _ G2.out.bel).mono ?_
                rintro e q3 ⟨⟨b, d, rfl, h1, h2⟩, hb⟩
                have G3 := hid (G2.out.call h1 h2 hb)
                clear h1 h2 hb
                go_wp2_with fail
                refine hK.out _ _ trivial (fun hHeld => ?_)
                clear hK K G2
                try simp only [Act.put, List.setIfInBounds_toArray, List.set_cons_zero, List.set_cons_succ]
                refine wpAnyH_take (i := 9) (v := .agg #[.int .i64 1, .int .i64 now, .slice (some ⟨b, 0, none⟩) vars.length d, .slice (some ⟨kx, 0, none⟩) ss.length ss.length, .slice (some ⟨ky, 0, none⟩) ss.length ss.length]) rfl (by kernel_rfl) (by kernel_rfl) (by kernel_rfl) (fun _ _ _ h => h) (Or.inl ⟨by kernel_rfl, by intro w hSw; (try dsimp only at hSw); go_simp⟩) (by assumption) ?_
                simp only [Act.put, List.setIfInBounds_toArray, List.set_cons_zero, List.set_cons_succ]
                refine wpAnyH_ready (rs := [10]) (by kernel_rfl) (by simp) ?_
                refine (AllReadyH.cons rfl (fun K hK => ?_) AllReadyH.nil)
                go_simp
                obtain ⟨q4, eq4⟩ : ∃ q4, q4 = q3.alloc (.cells #[.int .i64 0, .int .i64 0, .slice none 0 0, .slice none 0 0, .slice none 0 0] 26) := ⟨_, rfl⟩
                obtain ⟨kz, fz⟩ : ∃ kz, kz = q3.heap.size := ⟨_, rfl⟩
                rw [← eq4, ← fz]
                have G4 := hid (G3.out.mkz eq4 fz)
                clear eq4 fz
                refine hK.out _ _ trivial (fun hHeld => ?_)
                clear hK K G3
                try simp only [Act.put, List.setIfInBounds_toArray, List.set_cons_zero, List.set_cons_succ]
                obtain ⟨⟨t0, t1, t2, t3, t4⟩, ⟨z0, z1, z2, z3, z4⟩, lz⟩ := G4.out.cells
                refine wpAnyH_ready (rs := [11]) (by kernel_rfl) (by simp) ?_
                refine AllReadyH.cons rfl (fun K hK => ?_) AllReadyH.nil
                go_simp
                refine hK.out _ _ trivial (fun hHeld => ?_)
                clear hK K
                try simp only [Act.put, List.setIfInBounds_toArray, List.set_cons_zero, List.set_cons_succ]
                refine wpAnyH_done (by kernel_rfl) ?_ _
                go_wp2_with fail
                go_meet
                exact ⟨⟨kz, kx, ky, b, ss.length, ss.length, d⟩, rfl, hid (G4.out.fin H4.out HA2.out)⟩
              · go_simp
                obtain ⟨q3, eq3⟩ : ∃ q3, q3 = q2.alloc (.cells #[.int .i64 0, .int .i64 0, .slice none 0 0, .slice none 0 0, .slice none 0 0] 26) := ⟨_, rfl⟩
                obtain ⟨kz, fz⟩ : ∃ kz, kz = q2.heap.size := ⟨_, rfl⟩
                rw [← eq3, ← fz]
                have G3 := hid (G2.out.mkz eq3 fz)
                clear eq3 fz
                refine hK.out _ _ trivial (fun hHeld => ?_)
                clear hK K G2
                try simp only [Act.put, List.setIfInBounds_toArray, List.set_cons_zero, List.set_cons_succ]
                refine wpAnyH_ready (rs := [2]) (by kernel_rfl) (by simp) ?_
                refine (AllReadyH.cons rfl (fun K hK => ?_) AllReadyH.nil)
                go_simp
                go_at_call 34
                refine (HLI.out _ G3.out.bel).mono ?_
                rintro e q4 ⟨⟨b, d, rfl, h1, h2⟩, hb⟩
                have G4 := hid (G3.out.call h1 h2 hb)
                clear h1 h2 hb
                go_wp2_with fail
                refine hK.out _ _ trivial (fun hHeld => ?_)
                clear hK K G3
                try simp only [Act.put, List.setIfInBounds_toArray, List.set_cons_zero, List.set_cons_succ]
                refine wpAnyH_take (i := 9) (v := .agg #[.int .i64 1, .int .i64 now, .slice (some ⟨b, 0, none⟩) vars.length d, .slice (some ⟨kx, 0, none⟩) ss.length ss.length, .slice (some ⟨ky, 0, none⟩) ss.length ss.length]) rfl (by kernel_rfl) (by kernel_rfl) (by kernel_rfl) (fun _ _ _ h => h) (Or.inl ⟨by kernel_rfl, by intro w hSw; (try dsimp only at hSw); go_simp⟩) (by assumption) ?_
                simp only [Act.put, List.setIfInBounds_toArray, List.set_cons_zero, List.set_cons_succ]
                obtain ⟨⟨t0, t1, t2, t3, t4⟩, ⟨z0, z1, z2, z3, z4⟩, lz⟩ := G4.out.cells
                refine wpAnyH_ready (rs := [11]) (by kernel_rfl) (by simp) ?_
                refine AllReadyH.cons rfl (fun K hK => ?_) AllReadyH.nil
                go_simp
                refine hK.out _ _ trivial (fun hHeld => ?_)
                clear hK K
                try simp only [Act.put, List.setIfInBounds_toArray, List.set_cons_zero, List.set_cons_succ]
                refine wpAnyH_done (by kernel_rfl) ?_ _
                go_wp2_with fail
                go_meet
                exact ⟨⟨kz, kx, ky, b, ss.length, ss.length, d⟩, rfl, hid (G4.out.fin H4.out HA2.out)⟩
            · go_simp
              obtain ⟨q2, eq2⟩ : ∃ q2, q2 = q1.alloc (.cells #[.int .i64 0, .int .i64 0, .slice none 0 0, .slice none 0 0, .slice none 0 0] 26) := ⟨_, rfl⟩
              obtain ⟨kz, fz⟩ : ∃ kz, kz = q1.heap.size := ⟨_, rfl⟩
              rw [← eq2, ← fz]
              have G2 := hid (G1.out.mkz eq2 fz)
              clear eq2 fz
              refine hK.out _ _ trivial (fun hHeld => ?_)
              clear hK K G1
              try simp only [Act.put, List.setIfInBounds_toArray, List.set_cons_zero, List.set_cons_succ]
              refine wpAnyH_ready (rs := [2, 8]) (by kernel_rfl) (by simp) ?_
              refine (AllReadyH.cons rfl (fun K hK => ?_) (AllReadyH.cons rfl (fun K hK => ?_) AllReadyH.nil))
              · go_simp
                go_at_call 34
                refine (HLI.out _ G2.out.bel).mono ?_
                rintro e q3 ⟨⟨b, d, rfl, h1, h2⟩, hb⟩
                have G3 := hid (G2.out.call h1 h2 hb)
                clear h1 h2 hb
                go_wp2_with fail
                refine hK.out _ _ trivial (fun hHeld => ?_)
                clear hK K G2
                try simp only [Act.put, List.setIfInBounds_toArray, List.set_cons_zero, List.set_cons_succ]
                refine wpAnyH_ready (rs := [8]) (by kernel_rfl) (by simp) ?_
                refine (AllReadyH.cons rfl (fun K hK => ?_) AllReadyH.nil)
                go_simp
                obtain ⟨q4, eq4⟩ : ∃ q4, q4 = q3.alloc (.cells (madeCells #[.int .i64 0] ss.length) 2) := ⟨_, rfl⟩
                obtain ⟨ky, fy⟩ : ∃ ky, ky = q3.heap.size := ⟨_, rfl⟩
                rw [← eq4, ← fy]
                have G4 := hid (G3.out.mky hl eq4 fy)
                clear eq4 fy
                refine hK.out _ _ trivial (fun hHeld => ?_)
                clear hK K G3
                try simp only [Act.put, List.setIfInBounds_toArray, List.set_cons_zero, List.set_cons_succ]
                refine wpAnyH_take (i := 9) (v := .agg #[.int .i64 1, .int .i64 now, .slice (some ⟨b, 0, none⟩) vars.length d, .slice (some ⟨kx, 0, none⟩) ss.length ss.length, .slice (some ⟨ky, 0, none⟩) ss.length ss.length]) rfl (by kernel_rfl) (by kernel_rfl) (by kernel_rfl) (fun _ _ _ h => h) (Or.inl ⟨by kernel_rfl, by intro w hSw; (try dsimp only at hSw); go_simp⟩) (by assumption) ?_
                simp only [Act.put, List.setIfInBounds_toArray, List.set_cons_zero, List.set_cons_succ]
                obtain ⟨⟨t0, t1, t2, t3, t4⟩, ⟨z0, z1, z2, z3, z4⟩, lz⟩ := G4.out.cells
                refine wpAnyH_ready (rs := [11]) (by kernel_rfl) (by simp) ?_
                refine AllReadyH.cons rfl (fun K hK => ?_) AllReadyH.nil
                go_simp
                refine hK.out _ _ trivial (fun hHeld => ?_)
                clear hK K
                try simp only [Act.put, List.setIfInBounds_toArray, List.set_cons_zero, List.set_cons_succ]
                refine wpAnyH_done (by kernel_rfl) ?_ _
                go_wp2_with fail
                go_meet
                exact ⟨⟨kz, kx, ky, b, ss.length, ss.length, d⟩, rfl, hid (G4.out.fin H4.out HA2.out)⟩
              · go_simp
                obtain ⟨q3, eq3⟩ : ∃ q3, q3 = q2.alloc (.cells (madeCells #[.int .i64 0] ss.length) 2) := ⟨_, rfl⟩
                obtain ⟨ky, fy⟩ : ∃ ky, ky = q2.heap.size := ⟨_, rfl⟩
                rw [← eq3, ← fy]
                have G3 := hid (G2.out.mky hl eq3 fy)
                clear eq3 fy
                refine hK.out _ _ trivial (fun hHeld => ?_)
                clear hK K G2
                try simp only [Act.put, List.setIfInBounds_toArray, List.set_cons_zero, List.set_cons_succ]
                refine wpAnyH_ready (rs := [2]) (by kernel_rfl) (by simp) ?_
                refine (AllReadyH.cons rfl (fun K hK => ?_) AllReadyH.nil)
                go_simp
                go_at_call 34
                refine (HLI.out _ G3.out.bel).mono ?_
                rintro e q4 ⟨⟨b, d, rfl, h1, h2⟩, hb⟩
                have G4 := hid (G3.out.call h1 h2 hb)
                clear h1 h2 hb
                go_wp2_with fail
                refine hK.out _ _ trivial (fun hHeld => ?_)
                clear hK K G3
                try simp only [Act.put, List.setIfInBounds_toArray, List.set_cons_zero, List.set_cons_succ]
                refine wpAnyH_take (i := 9) (v := .agg #[.int .i64 1, .int .i64 now, .slice (some ⟨b, 0, none⟩) vars.length d, .slice (some ⟨kx, 0, none⟩) ss.length ss.length, .slice (some ⟨ky, 0, none⟩) ss.length ss.length]) rfl (by kernel_rfl) (by kernel_rfl) (by kernel_rfl) (fun _ _ _ h => h) (Or.inl ⟨by kernel_rfl, by intro w hSw; (try dsimp only at hSw); go_simp⟩) (by assumption) ?_
                simp only [Act.put, List.setIfInBounds_toArray, List.set_cons_zero, List.set_cons_succ]
                obtain ⟨⟨t0, t1, t2, t3, t4⟩, ⟨z0, z1, z2, z3, z4⟩, lz⟩ := G4.out.cells
                refine wpAnyH_ready (rs := [11]) (by kernel_rfl) (by simp) ?_
                refine AllReadyH.cons rfl (fun K hK => ?_) AllReadyH.nil
                go_simp
                refine hK.out _ _ trivial (fun hHeld => ?_)
                clear hK K
                try simp only [Act.put, List.setIfInBounds_toArray, List.set_cons_zero, List.set_cons_succ]
                refine wpAnyH_done (by kernel_rfl) ?_ _
                go_wp2_with fail
                go_meet
                exact ⟨⟨kz, kx, ky, b, ss.length, ss.length, d⟩, rfl, hid (G4.out.fin H4.out HA2.out)⟩
          · go_simp
            obtain ⟨q1, eq1⟩ : ∃ q1, q1 = q0.alloc (.cells (madeCells #[.int .i64 0] ss.length) 2) := ⟨_, rfl⟩
            obtain ⟨ky, fy⟩ : ∃ ky, ky = q0.heap.size := ⟨_, rfl⟩
            rw [← eq1, ← fy]
            have G1 := hid (G0.out.mky hl eq1 fy)
            clear eq1 fy
            refine hK.out _ _ trivial (fun hHeld => ?_)
            clear hK K G0
            try simp only [Act.put, List.setIfInBounds_toArray, List.set_cons_zero, List.set_cons_succ]
            refine wpAnyH_ready (rs := [2, 5, 10]) (by kernel_rfl) (by simp) ?_
            refine (AllReadyH.cons rfl (fun K hK => ?_) (AllReadyH.cons rfl (fun K hK => ?_) (AllReadyH.cons rfl (fun K hK => ?_) AllReadyH.nil)))
            · go_simp
              go_at_call 34
              refine (HLI.out _ G1.out.bel).mono ?_
              rintro e q2 ⟨⟨b, d, rfl, h1, h2⟩, hb⟩
              have G2 := hid (G1.out.call h1 h2 hb)
              clear h1 h2 hb
              go_wp2_with fail
              refine hK.out _ _ trivial (fun hHeld => ?_)
              clear hK K G1
              try simp only [Act.put, List.setIfInBounds_toArray, List.set_cons_zero, List.set_cons_succ]
              refine wpAnyH_ready (rs := [5, 10]) (by kernel_rfl) (by simp) ?_
              refine (AllReadyH.cons rfl (fun K hK => ?_) (AllReadyH.cons rfl (fun K hK => ?_) AllReadyH.nil))
              · go_simp
                obtain ⟨q3, eq3⟩ : ∃ q3, q3 = q2.alloc (.cells (madeCells #[.int .i64 0] ss.length) 2) := ⟨_, rfl⟩
                obtain ⟨kx, fx⟩ : ∃ kx, kx = q2.heap.size := ⟨_, rfl⟩
                rw [← eq3, ← fx]
                have G3 := hid (G2.out.mkx hl eq3 fx)
                clear eq3 fx
                refine hK.out _ _ trivial (fun hHeld => ?_)
                clear hK K G2
                try simp only [Act.put, List.setIfInBounds_toArray, List.set_cons_zero, List.set_cons_succ]
                refine wpAnyH_take (i := 9) (v := .agg #[.int .i64 1, .int .i64 now, .slice (some ⟨b, 0, none⟩) vars.length d, .slice (some ⟨kx, 0, none⟩) ss.length ss.length, .slice (some ⟨ky, 0, none⟩) ss.length ss.length]) rfl (by kernel_rfl) (by kernel_rfl) (by kernel_rfl) (fun _ _ _ h => h) (Or.inl ⟨by kernel_rfl, by intro w hSw; (try dsimp only at hSw); go_simp⟩) (by assumption) ?_
                simp only [Act.put, List.setIfInBounds_toArray, List.set_cons_zero, List.set_cons_succ]
                refine wpAnyH_ready (rs := [10]) (by kernel_rfl) (by simp) ?_
                refine (AllReadyH.cons rfl (fun K hK => ?_) AllReadyH.nil)
                go_simp
                obtain ⟨q4, eq4⟩ : ∃ q4, q4 = q3.alloc (.cells #[.int .i64 0, .int .i64 0, .slice none 0 0, .slice none 0 0, .slice none 0 0] 26) := ⟨_, rfl⟩
                obtain ⟨kz, fz⟩ : ∃ kz, kz = q3.heap.size := ⟨_, rfl⟩
                rw [← eq4, ← fz]
                have G4 := hid (G3.out.mkz eq4 fz)
                clear eq4 fz
                refine hK.out _ _ trivial (fun hHeld => ?_)
                clear hK K G3
                try simp only [Act.put, List.setIfInBounds_toArray, List.set_cons_zero, List.set_cons_succ]
                obtain ⟨⟨t0, t1, t2, t3, t4⟩, ⟨z0, z1, z2, z3, z4⟩, lz⟩ := G4.out.cells
                refine wpAnyH_ready (rs := [11]) (by kernel_rfl) (by simp) ?_
                refine AllReadyH.cons rfl (fun K hK => ?_) AllReadyH.nil
                go_simp
                refine hK.out _ _ trivial (fun hHeld => ?_)
                clear hK K
                try simp only [Act.put, List.setIfInBounds_toArray, List.set_cons_zero, List.set_cons_succ]
                refine wpAnyH_done (by kernel_rfl) ?_ _
                go_wp2_with fail
                go_meet
                exact ⟨⟨kz, kx, ky, b, ss.length, ss.length, d⟩, rfl, hid (G4.out.fin H4.out HA2.out)⟩
              · go_simp
                obtain ⟨q3, eq3⟩ : ∃ q3, q3 = q2.alloc (.cells #[.int .i64 0, .int .i64 0, .slice none 0 0, .slice none 0 0, .slice none 0 0] 26) := ⟨_, rfl⟩
                obtain ⟨kz, fz⟩ : ∃ kz, kz = q2.heap.size := ⟨_, rfl⟩
                rw [← eq3, ← fz]
                have G3 := hid (G2.out.mkz eq3 fz)
                clear eq3 fz
                refine hK.out _ _ trivial (fun hHeld => ?_)
                clear hK K G2
                try simp only [Act.put, List.setIfInBounds_toArray, List.set_cons_zero, List.set_cons_succ]
                refine wpAnyH_ready (rs := [5]) (by kernel_rfl) (by simp) ?_
                refine (AllReadyH.cons rfl (fun K hK => ?_) AllReadyH.nil)
                go_simp
                obtain ⟨q4, eq4⟩ : ∃ q4, q4 = q3.alloc (.cells (madeCells #[.int .i64 0] ss.length) 2) := ⟨_, rfl⟩
                obtain ⟨kx, fx⟩ : ∃ kx, kx = q3.heap.size := ⟨_, rfl⟩
                rw [← eq4, ← fx]
                have G4 := hid (G3.out.mkx hl eq4 fx)
                clear eq4 fx
                refine hK.out _ _ trivial (fun hHeld => ?_)
                clear hK K G3
                try simp only [Act.put, List.setIfInBounds_toArray, List.set_cons_zero, List.set_cons_succ]
                refine wpAnyH_take (i := 9) (v := .agg #[.int .i64 1, .int .i64 now, .slice (some ⟨b, 0, none⟩) vars.length d, .slice (some ⟨kx, 0, none⟩) ss.length ss.length, .slice (some ⟨ky, 0, none⟩) ss.length ss.length]) rfl (by kernel_rfl) (by kernel_rfl) (by kernel_rfl) (fun _ _ _ h => h) (Or.inl ⟨by kernel_rfl, by intro w hSw; (try dsimp only at hSw); go_simp⟩) (by assumption) ?_
                simp only [Act.put, List.setIfInBounds_toArray, List.set_cons_zero, List.set_cons_succ]
                obtain ⟨⟨t0, t1, t2, t3, t4⟩, ⟨z0, z1, z2, z3, z4⟩, lz⟩ := G4.out.cells
                refine wpAnyH_ready (rs := [11]) (by kernel_rfl) (by simp) ?_
                refine AllReadyH.cons rfl (fun K hK => ?_) AllReadyH.nil
                go_simp
                refine hK.out _ _ trivial (fun hHeld => ?_)
                clear hK K
                try simp only [Act.put, List.setIfInBounds_toArray, List.set_cons_zero, List.set_cons_succ]
                refine wpAnyH_done (by kernel_rfl) ?_ _
                go_wp2_with fail
                go_meet
                exact ⟨⟨kz, kx, ky, b, ss.length, ss.length, d⟩, rfl, hid (G4.out.fin H4.out HA2.out)⟩
            · go_simp
              obtain ⟨q2, eq2⟩ : ∃ q2, q2 = q1.alloc (.cells (madeCells #[.int .i64 0] ss.length) 2) := ⟨_, rfl⟩
              obtain ⟨kx, fx⟩ : ∃ kx, kx = q1.heap.size := ⟨_, rfl⟩
              rw [← eq2, ← fx]
              have G2 := hid (G1.out.mkx hl eq2 fx)
              clear eq2 fx
              refine hK.out _ _ trivial (fun hHeld => ?_)
              clear hK K G1
              try simp only [Act.put, List.setIfInBounds_toArray, List.set_cons_zero, List.set_cons_succ]
              refine wpAnyH_ready (rs := [2, 10]) (by kernel_rfl) (by simp) ?_
              refine (AllReadyH.cons rfl (fun K hK => ?_) (AllReadyH.cons rfl (fun K hK => ?_) AllReadyH.nil))
              · go_simp
                go_at_call 34
                refine (HLI.out _ G2.out.bel).mono ?_
                rintro e q3 ⟨⟨b, d, rfl, h1, h2⟩, hb⟩
                have G3 := hid (G2.out.call h1 h2 hb)
                clear h1 h2 hb
                go_wp2_with fail
                refine hK.out _ _ trivial (fun hHeld => ?_)
                clear hK K G2
                try simp only [Act.put, List.setIfInBounds_toArray, List.set_cons_zero, List.set_cons_succ]
                refine wpAnyH_take (i := 9) (v := .agg #[.int .i64 1, .int .i64 now, .slice (some ⟨b, 0, none⟩) vars.length d, .slice (some ⟨kx, 0, none⟩) ss.length ss.length, .slice (some ⟨ky, 0, none⟩) ss.length ss.length]) rfl (by kernel_rfl) (by kernel_rfl) (by kernel_rfl) (fun _ _ _ h => h) (Or.inl ⟨by kernel_rfl, by intro w hSw; (try dsimp only at hSw); go_simp⟩) (by assumption) ?_
                simp only [Act.put, List.setIfInBounds_toArray, List.set_cons_zero, List.set_cons_succ]
                refine wpAnyH_ready (rs := [10]) (by kernel_rfl) (by simp) ?_
                refine (AllReadyH.cons rfl (fun K hK => ?_) AllReadyH.nil)
                go_simp
                obtain ⟨q4, eq4⟩ : ∃ q4, q4 = q3.alloc (.cells #[.int .i64 0, .int .i64 0, .slice none 0 0, .slice none 0 0, .slice none 0 0] 26) := ⟨_, rfl⟩
                obtain ⟨kz, fz⟩ : ∃ kz, kz = q3.heap.size := ⟨_, rfl⟩
                rw [← eq4, ← fz]
                have G4 := hid (G3.out.mkz eq4 fz)
                clear eq4 fz
                refine hK.out _ _ trivial (fun hHeld => ?_)
                clear hK K G3
                try simp only [Act.put, List.setIfInBounds_toArray, List.set_cons_zero, List.set_cons_succ]
                obtain ⟨⟨t0, t1, t2, t3, t4⟩, ⟨z0, z1, z2, z3, z4⟩, lz⟩ := G4.out.cells
                refine wpAnyH_ready (rs := [11]) (by kernel_rfl) (by simp) ?_
                refine AllReadyH.cons rfl (fun K hK => ?_) AllReadyH.nil
                go_simp
                refine hK.out _ _ trivial (fun hHeld => ?_)
                clear hK K
                try simp only [Act.put, List.setIfInBounds_toArray, List.set_cons_zero, List.set_cons_succ]
                refine wpAnyH_done (by kernel_rfl) ?_ _
                go_wp2_with fail
                go_meet
                exact ⟨⟨kz, kx, ky, b, ss.length, ss.length, d⟩, rfl, hid (G4.out.fin H4.out HA2.out)⟩
              · go_simp
                obtain ⟨q3, eq3⟩ : ∃ q3, q3 = q2.alloc (.cells #[.int .i64 0, .int .i64 0, .slice none 0 0, .slice none 0 0, .slice none 0 0] 26) := ⟨_, rfl⟩
                obtain ⟨kz, fz⟩ : ∃ kz, kz = q2.heap.size := ⟨_, rfl⟩
                rw [← eq3, ← fz]
                have G3 := hid (G2.out.mkz eq3 fz)
                clear eq3 fz
                refine hK.out _ _ trivial (fun hHeld => ?_)
                clear hK K G2
                try simp only [Act.put, List.setIfInBounds_toArray, List.set_cons_zero, List.set_cons_succ]
                refine wpAnyH_ready (rs := [2]) (by kernel_rfl) (by simp) ?_
                refine (AllReadyH.cons rfl (fun K hK => ?_) AllReadyH.nil)
                go_simp
                go_at_call 34
                refine (HLI.out _ G3.out.bel).mono ?_
                rintro e q4 ⟨⟨b, d, rfl, h1, h2⟩, hb⟩
                have G4 := hid (G3.out.call h1 h2 hb)
                clear h1 h2 hb
                go_wp2_with fail
                refine hK.out _ _ trivial (fun hHeld => ?_)
                clear hK K G3
                try simp only [Act.put, List.setIfInBounds_toArray, List.set_cons_zero, List.set_cons_succ]
                refine wpAnyH_take (i := 9) (v := .agg #[.int .i64 1, .int .i64 now, .slice (some ⟨b, 0, none⟩) vars.length d, .slice (some ⟨kx, 0, none⟩) ss.length ss.length, .slice (some ⟨ky, 0, none⟩) ss.length ss.length]) rfl (by kernel_rfl) (by kernel_rfl) (by kernel_rfl) (fun _ _ _ h => h) (Or.inl ⟨by kernel_rfl, by intro w hSw; (try dsimp only at hSw); go_simp⟩) (by assumption) ?_
                simp only [Act.put, List.setIfInBounds_toArray, List.set_cons_zero, List.set_cons_succ]
                obtain ⟨⟨t0, t1, t2, t3, t4⟩, ⟨z0, z1, z2, z3, z4⟩, lz⟩ := G4.out.cells
                refine wpAnyH_ready (rs := [11]) (by kernel_rfl) (by simp) ?_
                refine AllReadyH.cons rfl (fun K hK => ?_) AllReadyH.nil
                go_simp
                refine hK.out _ _ trivial (fun hHeld => ?_)
                clear hK K
                try simp only [Act.put, List.setIfInBounds_toArray, List.set_cons_zero, List.set_cons_succ]
                refine wpAnyH_done (by kernel_rfl) ?_ _
                go_wp2_with fail
                go_meet
                exact ⟨⟨kz, kx, ky, b, ss.length, ss.length, d⟩, rfl, hid (G4.out.fin H4.out HA2.out)⟩
            · go_simp
              obtain ⟨q2, eq2⟩ : ∃ q2, q2 = q1.alloc (.cells #[.int .i64 0, .int .i64 0, .slice none 0 0, .slice none 0 0, .slice none 0 0] 26) := ⟨_, rfl⟩
              obtain ⟨kz, fz⟩ : ∃ kz, kz = q1.heap.size := ⟨_, rfl⟩
              rw [← eq2, ← fz]
              have G2 := hid (G1.out.mkz eq2 fz)
              clear eq2 fz
              refine hK.out _ _ trivial (fun hHeld => ?_)
              clear hK K G1
              try simp only [Act.put, List.setIfInBounds_toArray, List.set_cons_zero, List.set_cons_succ]
              refine wpAnyH_ready (rs := [2, 5]) (by kernel_rfl) (by simp) ?_
              refine (AllReadyH.cons rfl (fun K hK => ?_) (AllReadyH.cons rfl (fun K hK => ?_) AllReadyH.nil))
              · go_simp
                go_at_call 34
                refine (HLI.out _ G2.out.bel).mono ?_
                rintro e q3 ⟨⟨b, d, rfl, h1, h2⟩, hb⟩
                have G3 := hid (G2.out.call h1 h2 hb)
                clear h1 h2 hb
                go_wp2_with fail
                refine hK.out _ _ trivial (fun hHeld => ?_)
                clear hK K G2
                try simp only [Act.put, List.setIfInBounds_toArray, List.set_cons_zero, List.set_cons_succ]
                refine wpAnyH_ready (rs := [5]) (by kernel_rfl) (by simp) ?_
                refine (AllReadyH.cons rfl (fun K hK => ?_) AllReadyH.nil)
                go_simp
                obtain ⟨q4, eq4⟩ : ∃ q4, q4 = q3.alloc (.cells (madeCells #[.int .i64 0] ss.length) 2) := ⟨_, rfl⟩
                obtain ⟨kx, fx⟩ : ∃ kx, kx = q3.heap.size := ⟨_, rfl⟩
                rw [← eq4, ← fx]
                have G4 := hid (G3.out.mkx hl eq4 fx)
                clear eq4 fx
                refine hK.out _ _ trivial (fun hHeld => ?_)
                clear hK K G3
                try simp only [Act.put, List.setIfInBounds_toArray, List.set_cons_zero, List.set_cons_succ]
                refine wpAnyH_take (i := 9) (v := .agg #[.int .i64 1, .int .i64 now, .slice (some ⟨b, 0, none⟩) vars.length d, .slice (some ⟨kx, 0, none⟩) ss.length ss.length, .slice (some ⟨ky, 0, none⟩) ss.length ss.length]) rfl (by kernel_rfl) (by kernel_rfl) (by kernel_rfl) (fun _ _ _ h => h) (Or.inl ⟨by kernel_rfl, by intro w hSw; (try dsimp only at hSw); go_simp⟩) (by assumption) ?_
                simp only [Act.put, List.setIfInBounds_toArray, List.set_cons_zero, List.set_cons_succ]
                obtain ⟨⟨t0, t1, t2, t3, t4⟩, ⟨z0, z1, z2, z3, z4⟩, lz⟩ := G4.out.cells
                refine wpAnyH_ready (rs := [11]) (by kernel_rfl) (by simp) ?_
                refine AllReadyH.cons rfl (fun K hK => ?_) AllReadyH.nil
                go_simp
                refine hK.out _ _ trivial (fun hHeld => ?_)
                clear hK K
                try simp only [Act.put, List.setIfInBounds_toArray, List.set_cons_zero, List.set_cons_succ]
                refine wpAnyH_done (by kernel_rfl) ?_ _
                go_wp2_with fail
                go_meet
                exact ⟨⟨kz, kx, ky, b, ss.length, ss.length, d⟩, rfl, hid (G4.out.fin H4.out HA2.out)⟩
              · go_simp
                obtain ⟨q3, eq3⟩ : ∃ q3, q3 = q2.alloc (.cells (madeCells #[.int .i64 0] ss.length) 2) := ⟨_, rfl⟩
                obtain ⟨kx, fx⟩ : ∃ kx, kx = q2.heap.size := ⟨_, rfl⟩
                rw [← eq3, ← fx]
                have G3 := hid (G2.out.mkx hl eq3 fx)
                clear eq3 fx
                refine hK.out _ _ trivial (fun hHeld => ?_)
                clear hK K G2
                try simp only [Act.put, List.setIfInBounds_toArray, List.set_cons_zero, List.set_cons_succ]
                refine wpAnyH_ready (rs := [2]) (by kernel_rfl) (by simp) ?_
                refine (AllReadyH.cons rfl (fun K hK => ?_) AllReadyH.nil)
                go_simp
                go_at_call 34
                refine (HLI.out _ G3.out.bel).mono ?_
                rintro e q4 ⟨⟨b, d, rfl, h1, h2⟩, hb⟩
                have G4 := hid (G3.out.call h1 h2 hb)
                clear h1 h2 hb
                go_wp2_with fail
                refine hK.out _ _ trivial (fun hHeld => ?_)
                clear hK K G3
                try simp only [Act.put, List.setIfInBounds_toArray, List.set_cons_zero, List.set_cons_succ]
                refine wpAnyH_take (i := 9) (v := .agg #[.int .i64 1, .int .i64 now, .slice (some ⟨b, 0, none⟩) vars.length d, .slice (some ⟨kx, 0, none⟩) ss.length ss.length, .slice (some ⟨ky, 0, none⟩) ss.length ss.length]) rfl (by kernel_rfl) (by kernel_rfl) (by kernel_rfl) (fun _ _ _ h => h) (Or.inl ⟨by kernel_rfl, by intro w hSw; (try dsimp only at hSw); go_simp⟩) (by assumption) ?_
                simp only [Act.put, List.setIfInBounds_toArray, List.set_cons_zero, List.set_cons_succ]
                obtain ⟨⟨t0, t1, t2, t3, t4⟩, ⟨z0, z1, z2, z3, z4⟩, lz⟩ := G4.out.cells
                refine wpAnyH_ready (rs := [11]) (by kernel_rfl) (by simp) ?_
                refine AllReadyH.cons rfl (fun K hK => ?_) AllReadyH.nil
                go_simp
                refine hK.out _ _ trivial (fun hHeld => ?_)
                clear hK K
                try simp only [Act.put, List.setIfInBounds_toArray, List.set_cons_zero, List.set_cons_succ]
                refine wpAnyH_done (by kernel_rfl) ?_ _
                go_wp2_with fail
                go_meet
                exact ⟨⟨kz, kx, ky, b, ss.length, ss.length, d⟩, rfl, hid (G4.out.fin H4.out HA2.out)⟩
          · go_simp
            obtain ⟨q1, eq1⟩ : ∃ q1, q1 = q0.alloc (.cells #[.int .i64 0, .int .i64 0, .slice none 0 0, .slice none 0 0, .slice none 0 0] 26) := ⟨_, rfl⟩
            obtain ⟨kz, fz⟩ : ∃ kz, kz = q0.heap.size := ⟨_, rfl⟩
            rw [← eq1, ← fz]
            have G1 := hid (G0.out.mkz eq1 fz)
            clear eq1 fz
            refine hK.out _ _ trivial (fun hHeld => ?_)
            clear hK K G0
            try simp only [Act.put, List.setIfInBounds_toArray, List.set_cons_zero, List.set_cons_succ]
            refine wpAnyH_ready (rs := [2, 5, 8]) (by kernel_rfl) (by simp) ?_
            refine (AllReadyH.cons rfl (fun K hK => ?_) (AllReadyH.cons rfl (fun K hK => ?_) (AllReadyH.cons rfl (fun K hK => ?_) AllReadyH.nil)))
            · go_simp
              go_at_call 34
              refine (HLI.out _ G1.out.bel).mono ?_
              rintro e q2 ⟨⟨b, d, rfl, h1, h2⟩, hb⟩
              have G2 := hid (G1.out.call h1 h2 hb)
              clear h1 h2 hb
              go_wp2_with fail
              refine hK.out _ _ trivial (fun hHeld => ?_)
              clear hK K G1
              try simp only [Act.put, List.setIfInBounds_toArray, List.set_cons_zero, List.set_cons_succ]
              refine wpAnyH_ready (rs := [5, 8]) (by kernel_rfl) (by simp) ?_
              refine (AllReadyH.cons rfl (fun K hK => ?_) (AllReadyH.cons rfl (fun K hK => ?_) AllReadyH.nil))
              · go_simp
                obtain ⟨q3, eq3⟩ : ∃ q3, q3 = q2.alloc (.cells (madeCells #[.int .i64 0] ss.length) 2) := ⟨_, rfl⟩
                obtain ⟨kx, fx⟩ : ∃ kx, kx = q2.heap.size := ⟨_, rfl⟩
                rw [← eq3, ← fx]
                have G3 := hid (G2.out.mkx hl eq3 fx)
                clear eq3 fx
                refine hK.out _ _ trivial (fun hHeld => ?_)
                clear hK K G2
                try simp only [Act.put, List.setIfInBounds_toArray, List.set_cons_zero, List.set_cons_succ]
                refine wpAnyH_ready (rs := [8]) (by kernel_rfl) (by simp) ?_
                refine (AllReadyH.cons rfl (fun K hK => ?_) AllReadyH.nil)
                go_simp
                obtain ⟨q4, eq4⟩ : ∃ q4, q4 = q3.alloc (.cells (madeCells #[.int .i64 0] ss.length) 2) := ⟨_, rfl⟩
                obtain ⟨ky, fy⟩ : ∃ ky, ky = q3.heap.size := ⟨_, rfl⟩
                rw [← eq4, ← fy]
                have G4 := hid (G3.out.mky hl eq4 fy)
                clear eq4 fy
                refine hK.out _ _ trivial (fun hHeld => ?_)
                clear hK K G3
                try simp only [Act.put, List.setIfInBounds_toArray, List.set_cons_zero, List.set_cons_succ]
                refine wpAnyH_take (i := 9) (v := .agg #[.int .i64 1, .int .i64 now, .slice (some ⟨b, 0, none⟩) vars.length d, .slice (some ⟨kx, 0, none⟩) ss.length ss.length, .slice (some ⟨ky, 0, none⟩) ss.length ss.length]) rfl (by kernel_rfl) (by kernel_rfl) (by kernel_rfl) (fun _ _ _ h => h) (Or.inl ⟨by kernel_rfl, by intro w hSw; (try dsimp only at hSw); go_simp⟩) (by assumption) ?_
                simp only [Act.put, List.setIfInBounds_toArray, List.set_cons_zero, List.set_cons_succ]
                obtain ⟨⟨t0, t1, t2, t3, t4⟩, ⟨z0, z1, z2, z3, z4⟩, lz⟩ := G4.out.cells
                refine wpAnyH_ready (rs := [11]) (by kernel_rfl) (by simp) ?_
                refine AllReadyH.cons rfl (fun K hK => ?_) AllReadyH.nil
                go_simp
                refine hK.out _ _ trivial (fun hHeld => ?_)
                clear hK K
                try simp only [Act.put, List.setIfInBounds_toArray, List.set_cons_zero, List.set_cons_succ]
                refine wpAnyH_done (by kernel_rfl) ?_ _
                go_wp2_with fail
                go_meet
                exact ⟨⟨kz, kx, ky, b, ss.length, ss.length, d⟩, rfl, hid (G4.out.fin H4.out HA2.out)⟩
              · go_simp
                obtain ⟨q3, eq3⟩ : ∃ q3, q3 = q2.alloc (.cells (madeCells #[.int .i64 0] ss.length) 2) := ⟨_, rfl⟩
                obtain ⟨ky, fy⟩ : ∃ ky, ky = q2.heap.size := ⟨_, rfl⟩
                rw [← eq3, ← fy]
                have G3 := hid (G2.out.mky hl eq3 fy)
                clear eq3 fy
                refine hK.out _ _ trivial (fun hHeld => ?_)
                clear hK K G2
                try simp only [Act.put, List.setIfInBounds_toArray, List.set_cons_zero, List.set_cons_succ]
                refine wpAnyH_ready (rs := [5]) (by kernel_rfl) (by simp) ?_
                refine (AllReadyH.cons rfl (fun K hK => ?_) AllReadyH.nil)
                go_simp
                obtain ⟨q4, eq4⟩ : ∃ q4, q4 = q3.alloc (.cells (madeCells #[.int .i64 0] ss.length) 2) := ⟨_, rfl⟩
                obtain ⟨kx, fx⟩ : ∃ kx, kx = q3.heap.size := ⟨_, rfl⟩
                rw [← eq4, ← fx]
                have G4 := hid (G3.out.mkx hl eq4 fx)
                clear eq4 fx
                refine hK.out _ _ trivial (fun hHeld => ?_)
                clear hK K G3
                try simp only [Act.put, List.setIfInBounds_toArray, List.set_cons_zero, List.set_cons_succ]
                refine wpAnyH_take (i := 9) (v := .agg #[.int .i64 1, .int .i64 now, .slice (some ⟨b, 0, none⟩) vars.length d, .slice (some ⟨kx, 0, none⟩) ss.length ss.length, .slice (some ⟨ky, 0, none⟩) ss.length ss.length]) rfl (by kernel_rfl) (by kernel_rfl) (by kernel_rfl) (fun _ _ _ h => h) (Or.inl ⟨by kernel_rfl, by intro w hSw; (try dsimp only at hSw); go_simp⟩) (by assumption) ?_
                simp only [Act.put, List.setIfInBounds_toArray, List.set_cons_zero, List.set_cons_succ]
                obtain ⟨⟨t0, t1, t2, t3, t4⟩, ⟨z0, z1, z2, z3, z4⟩, lz⟩ := G4.out.cells
                refine wpAnyH_ready (rs := [11]) (by kernel_rfl) (by simp) ?_
                refine AllReadyH.cons rfl (fun K hK => ?_) AllReadyH.nil
                go_simp
                refine hK.out _ _ trivial (fun hHeld => ?_)
                clear hK K
                try simp only [Act.put, List.setIfInBounds_toArray, List.set_cons_zero, List.set_cons_succ]
                refine wpAnyH_done (by kernel_rfl) ?_ _
                go_wp2_with fail
                go_meet
                exact ⟨⟨kz, kx, ky, b, ss.length, ss.length, d⟩, rfl, hid (G4.out.fin H4.out HA2.out)⟩
            · go_simp
              obtain ⟨q2, eq2⟩ : ∃ q2, q2 = q1.alloc (.cells (madeCells #[.int .i64 0] ss.length) 2) := ⟨_, rfl⟩
              obtain ⟨kx, fx⟩ : ∃ kx, kx = q1.heap.size := ⟨_, rfl⟩
              rw [← eq2, ← fx]
              have G2 := hid (G1.out.mkx hl eq2 fx)
              clear eq2 fx
              refine hK.out _ _ trivial (fun hHeld => ?_)
              clear hK K G1
              try simp only [Act.put, List.setIfInBounds_toArray, List.set_cons_zero, List.set_cons_succ]
              refine wpAnyH_ready (rs := [2, 8]) (by kernel_rfl) (by simp) ?_
              refine (AllReadyH.cons rfl (fun K hK => ?_) (AllReadyH.cons rfl (fun K hK => ?_) AllReadyH.nil))
              · go_simp
                go_at_call 34
                refine (HLI.out _ G2.out.bel).mono ?_
                rintro e q3 ⟨⟨b, d, rfl, h1, h2⟩, hb⟩
                have G3 := hid (G2.out.call h1 h2 hb)
                clear h1 h2 hb
                go_wp2_with fail
                refine hK.out _ _ trivial (fun hHeld => ?_)
                clear hK K G2
                try simp only [Act.put, List.setIfInBounds_toArray, List.set_cons_zero, List.set_cons_succ]
                refine wpAnyH_ready (rs := [8]) (by kernel_rfl) (by simp) ?_
                refine (AllReadyH.cons rfl (fun K hK => ?_) AllReadyH.nil)
                go_simp
                obtain ⟨q4, eq4⟩ : ∃ q4, q4 = q3.alloc (.cells (madeCells #[.int .i64 0] ss.length) 2) := ⟨_, rfl⟩
                obtain ⟨ky, fy⟩ : ∃ ky, ky = q3.heap.size := ⟨_, rfl⟩
                rw [← eq4, ← fy]
                have G4 := hid (G3.out.mky hl eq4 fy)
                clear eq4 fy
                refine hK.out _ _ trivial (fun hHeld => ?_)
                clear hK K G3
                try simp only [Act.put, List.setIfInBounds_toArray, List.set_cons_zero, List.set_cons_succ]
                refine wpAnyH_take (i := 9) (v := .agg #[.int .i64 1, .int .i64 now, .slice (some ⟨b, 0, none⟩) vars.length d, .slice (some ⟨kx, 0, none⟩) ss.length ss.length, .slice (some ⟨ky, 0, none⟩) ss.length ss.length]) rfl (by kernel_rfl) (by kernel_rfl) (by kernel_rfl) (fun _ _ _ h => h) (Or.inl ⟨by kernel_rfl, by intro w hSw; (try dsimp only at hSw); go_simp⟩) (by assumption) ?_
                simp only [Act.put, List.setIfInBounds_toArray, List.set_cons_zero, List.set_cons_succ]
                obtain ⟨⟨t0, t1, t2, t3, t4⟩, ⟨z0, z1, z2, z3, z4⟩, lz⟩ := G4.out.cells
                refine wpAnyH_ready (rs := [11]) (by kernel_rfl) (by simp) ?_
                refine AllReadyH.cons rfl (fun K hK => ?_) AllReadyH.nil
                go_simp
                refine hK.out _ _ trivial (fun hHeld => ?_)
                clear hK K
                try simp only [Act.put, List.setIfInBounds_toArray, List.set_cons_zero, List.set_cons_succ]
                refine wpAnyH_done (by kernel_rfl) ?_ _
                go_wp2_with fail
                go_meet
                exact ⟨⟨kz, kx, ky, b, ss.length, ss.length, d⟩, rfl, hid (G4.out.fin H4.out HA2.out)⟩
              · go_simp
                obtain ⟨q3, eq3⟩ : ∃ q3, q3 = q2.alloc (.cells (madeCells #[.int .i64 0] ss.length) 2) := ⟨_, rfl⟩
                obtain ⟨ky, fy⟩ : ∃ ky, ky = q2.heap.size := ⟨_, rfl⟩
                rw [← eq3, ← fy]
                have G3 := hid (G2.out.mky hl eq3 fy)
                clear eq3 fy
                refine hK.out _ _ trivial (fun hHeld => ?_)
                clear hK K G2
                try simp only [Act.put, List.setIfInBounds_toArray, List.set_cons_zero, List.set_cons_succ]
                refine wpAnyH_ready (rs := [2]) (by kernel_rfl) (by simp) ?_
                refine (AllReadyH.cons rfl (fun K hK => ?_) AllReadyH.nil)
                go_simp
                go_at_call 34
                refine (HLI.out _ G3.out.bel).mono ?_
                rintro e q4 ⟨⟨b, d, rfl, h1, h2⟩, hb⟩
                have G4 := hid (G3.out.call h1 h2 hb)
                clear h1 h2 hb
                go_wp2_with fail
                refine hK.out _ _ trivial (fun hHeld => ?_)
                clear hK K G3
                try simp only [Act.put, List.setIfInBounds_toArray, List.set_cons_zero, List.set_cons_succ]
                refine wpAnyH_take (i := 9) (v := .agg #[.int .i64 1, .int .i64 now, .slice (some ⟨b, 0, none⟩) vars.length d, .slice (some ⟨kx, 0, none⟩) ss.length ss.length, .slice (some ⟨ky, 0, none⟩) ss.length ss.length]) rfl (by kernel_rfl) (by kernel_rfl) (by kernel_rfl) (fun _ _ _ h => h) (Or.inl ⟨by kernel_rfl, by intro w hSw; (try dsimp only at hSw); go_simp⟩) (by assumption) ?_
                simp only [Act.put, List.setIfInBounds_toArray, List.set_cons_zero, List.set_cons_succ]
                obtain ⟨⟨t0, t1, t2, t3, t4⟩, ⟨z0, z1, z2, z3, z4⟩, lz⟩ := G4.out.cells
                refine wpAnyH_ready (rs := [11]) (by kernel_rfl) (by simp) ?_
                refine AllReadyH.cons rfl (fun K hK => ?_) AllReadyH.nil
                go_simp
                refine hK.out _ _ trivial (fun hHeld => ?_)
                clear hK K
                try simp only [Act.put, List.setIfInBounds_toArray, List.set_cons_zero, List.set_cons_succ]
                refine wpAnyH_done (by kernel_rfl) ?_ _
                go_wp2_with fail
                go_meet
                exact ⟨⟨kz, kx, ky, b, ss.length, ss.length, d⟩, rfl, hid (G4.out.fin H4.out HA2.out)⟩
            · go_simp
              obtain ⟨q2, eq2⟩ : ∃ q2, q2 = q1.alloc (.cells (madeCells #[.int .i64 0] ss.length) 2) := ⟨_, rfl⟩
              obtain ⟨ky, fy⟩ : ∃ ky, ky = q1.heap.size := ⟨_, rfl⟩
              rw [← eq2, ← fy]
              have G2 := hid (G1.out.mky hl eq2 fy)
              clear eq2 fy
              refine hK.out _ _ trivial (fun hHeld => ?_)
              clear hK K G1
              try simp only [Act.put, List.setIfInBounds_toArray, List.set_cons_zero, List.set_cons_succ]
              refine wpAnyH_ready (rs := [2, 5]) (by kernel_rfl) (by simp) ?_
              refine (AllReadyH.cons rfl (fun K hK => ?_) (AllReadyH.cons rfl (fun K hK => ?_) AllReadyH.nil))
              · go_simp
                go_at_call 34
                refine (HLI.out _ G2.out.bel).mono ?_
                rintro e q3 ⟨⟨b, d, rfl, h1, h2⟩, hb⟩
                have G3 := hid (G2.out.call h1 h2 hb)
                clear h1 h2 hb
                go_wp2_with fail
                refine hK.out _ _ trivial (fun hHeld => ?_)
                clear hK K G2
                try simp only [Act.put, List.setIfInBounds_toArray, List.set_cons_zero, List.set_cons_succ]
                refine wpAnyH_ready (rs := [5]) (by kernel_rfl) (by simp) ?_
                refine (AllReadyH.cons rfl (fun K hK => ?_) AllReadyH.nil)
                go_simp
                obtain ⟨q4, eq4⟩ : ∃ q4, q4 = q3.alloc (.cells (madeCells #[.int .i64 0] ss.length) 2) := ⟨_, rfl⟩
                obtain ⟨kx, fx⟩ : ∃ kx, kx = q3.heap.size := ⟨_, rfl⟩
                rw [← eq4, ← fx]
                have G4 := hid (G3.out.mkx hl eq4 fx)
                clear eq4 fx
                refine hK.out _ _ trivial (fun hHeld => ?_)
                clear hK K G3
                try simp only [Act.put, List.setIfInBounds_toArray, List.set_cons_zero, List.set_cons_succ]
                refine wpAnyH_take (i := 9) (v := .agg #[.int .i64 1, .int .i64 now, .slice (some ⟨b, 0, none⟩) vars.length d, .slice (some ⟨kx, 0, none⟩) ss.length ss.length, .slice (some ⟨ky, 0, none⟩) ss.length ss.length]) rfl (by kernel_rfl) (by kernel_rfl) (by kernel_rfl) (fun _ _ _ h => h) (Or.inl ⟨by kernel_rfl, by intro w hSw; (try dsimp only at hSw); go_simp⟩) (by assumption) ?_
                simp only [Act.put, List.setIfInBounds_toArray, List.set_cons_zero, List.set_cons_succ]
                obtain ⟨⟨t0, t1, t2, t3, t4⟩, ⟨z0, z1, z2, z3, z4⟩, lz⟩ := G4.out.cells
                refine wpAnyH_ready (rs := [11]) (by kernel_rfl) (by simp) ?_
                refine AllReadyH.cons rfl (fun K hK => ?_) AllReadyH.nil
                go_simp
                refine hK.out _ _ trivial (fun hHeld => ?_)
                clear hK K
                try simp only [Act.put, List.setIfInBounds_toArray, List.set_cons_zero, List.set_cons_succ]
                refine wpAnyH_done (by kernel_rfl) ?_ _
                go_wp2_with fail
                go_meet
                exact ⟨⟨kz, kx, ky, b, ss.length, ss.length, d⟩, rfl, hid (G4.out.fin H4.out HA2.out)⟩
              · go_simp
                obtain ⟨q3, eq3⟩ : ∃ q3, q3 = q2.alloc (.cells (madeCells #[.int .i64 0] ss.length) 2) := ⟨_, rfl⟩
                obtain ⟨kx, fx⟩ : ∃ kx, kx = q2.heap.size := ⟨_, rfl⟩
                rw [← eq3, ← fx]
                have G3 := hid (G2.out.mkx hl eq3 fx)
                clear eq3 fx
                refine hK.out _ _ trivial (fun hHeld => ?_)
                clear hK K G2
                try simp only [Act.put, List.setIfInBounds_toArray, List.set_cons_zero, List.set_cons_succ]
                refine wpAnyH_ready (rs := [2]) (by kernel_rfl) (by simp) ?_
                refine (AllReadyH.cons rfl (fun K hK => ?_) AllReadyH.nil)
                go_simp
                go_at_call 34
                refine (HLI.out _ G3.out.bel).mono ?_
                rintro e q4 ⟨⟨b, d, rfl, h1, h2⟩, hb⟩
                have G4 := hid (G3.out.call h1 h2 hb)
                clear h1 h2 hb
                go_wp2_with fail
                refine hK.out _ _ trivial (fun hHeld => ?_)
                clear hK K G3
                try simp only [Act.put, List.setIfInBounds_toArray, List.set_cons_zero, List.set_cons_succ]
                refine wpAnyH_take (i := 9) (v := .agg #[.int .i64 1, .int .i64 now, .slice (some ⟨b, 0, none⟩) vars.length d, .slice (some ⟨kx, 0, none⟩) ss.length ss.length, .slice (some ⟨ky, 0, none⟩) ss.length ss.length]) rfl (by kernel_rfl) (by kernel_rfl) (by kernel_rfl) (fun _ _ _ h => h) (Or.inl ⟨by kernel_rfl, by intro w hSw; (try dsimp only at hSw); go_simp⟩) (by assumption) ?_
                simp only [Act.put, List.setIfInBounds_toArray, List.set_cons_zero, List.set_cons_succ]
                obtain ⟨⟨t0, t1, t2, t3, t4⟩, ⟨z0, z1, z2, z3, z4⟩, lz⟩ := G4.out.cells
                refine wpAnyH_ready (rs := [11]) (by kernel_rfl) (by simp) ?_
                refine AllReadyH.cons rfl (fun K hK => ?_) AllReadyH.nil
                go_simp
                refine hK.out _ _ trivial (fun hHeld => ?_)
                clear hK K
                try simp only [Act.put, List.setIfInBounds_toArray, List.set_cons_zero, List.set_cons_succ]
                refine wpAnyH_done (by kernel_rfl) ?_ _
                go_wp2_with fail
                go_meet
                exact ⟨⟨kz, kx, ky, b, ss.length, ss.length, d⟩, rfl, hid (G4.out.fin H4.out HA2.out)⟩
        case rest =>
          obtain ⟨P, rfl, HS4⟩ := hcut
          have HE := hid ((specGo w2 P (.slice a ss.length cap) ss HP.out FU).1 0 _ wc hpos (fuelE hl _) HOK.out HS4.out)
          have HK4 := hid ((HS4.out.bel.block _ (Ch.blk_lt HK2.out)).trans HK2.out)
          have HB4 := hid (HB2.out.trans (HS4.out.bel.mono HB2.out.size))
          clear hmk
          go_wp2_with fail
          refine HE.out.mono ?_
          rintro e w6 hT
          obtain rfl := hT.1
          have HU := hid hT
          clear hT
          have hk6 := ride_b HU.out.2.2 HS4.out lW HK4.out
          have HB6 := hid (ride_below HU.out.2.2 HS4.out HB4.out (by omega))
          have HS6 := hid HU.out.2.1
          have y0 := HS6.out.c0
          have y1 := HS6.out.c1
          have y2 := HS6.out.c2
          have y3 := HS6.out.c3
          have y4 := HS6.out.c4
          have yl := Ch.blk_lt HS6.out.blk
          have f0 := Ch.blk_free hk6 0
          have f1 := Ch.blk_free hk6 1
          have f2 := Ch.blk_free hk6 2
          have f3 := Ch.blk_free hk6 3
          have f4 := Ch.blk_free hk6 4
          have f5 := Ch.blk_free hk6 5
          have g0 : w6.cell? ⟨w.heap.size, 0, none⟩ = some (.int .i64 0) := Ch.blk_cell hk6 0
          have g1 : w6.cell? ⟨w.heap.size, 1, none⟩ = some (.int .i64 0) := Ch.blk_cell hk6 1
          have g2 : w6.cell? ⟨w.heap.size, 2, none⟩ = some (.int .i64 0) := Ch.blk_cell hk6 2
          have g3 : w6.cell? ⟨w.heap.size, 3, none⟩ = some (.slice none 0 0) := Ch.blk_cell hk6 3
          have g4 : w6.cell? ⟨w.heap.size, 4, none⟩ = some (.slice none 0 0) := Ch.blk_cell hk6 4
          have g5 : w6.cell? ⟨w.heap.size, 5, none⟩ = some (.slice none 0 0) := Ch.blk_cell hk6 5
          have gl := Ch.blk_lt hk6
          generalize go ss FU false 0 ⟨1, now, vars, fun _ => 0, fun _ => 0⟩ = sf at *
          go_wp2
          refine bodyPost_ret (results_cell_row Tryz.results8 _ _ w.heap.size 28 #[.int .i64 0, .int .i64 sf.status, .int .i64 sf.now, .slice (some ⟨P.V, 0, none⟩) 4 P.cv, .slice (some ⟨P.A, 0, none⟩) ss.length P.ca, .slice (some ⟨P.D, 0, none⟩) ss.length P.cd] (0, 0) _ rfl (set6 hk6 _ _ _ _ _ _) Tryz.underlying28 rfl info6) rfl ?_
          exact SPost.good HX.out HS6.out HB6.out (Nat.le_refl _) lW _ _ _ _ _ _
    · have b2 : (vFault vars != 0) = true := bne_iff_ne.2 hvf
      have HX := hid (s_vars (now := now) HP.out hvf)
      clear hvf
      generalize startC ss vars now = tc at *
      generalize startR ss vars now = tr at *
      generalize vFault vars = vf at *
      have HBD := hid (specBad (vf) w2)
      go_wp2_with fail
      refine HBD.out.mono ?_
      rintro e wz ⟨rfl, hbz⟩
      have hkz := rb_b hk2 hbz
      have HBZ := hid (HB2.out.trans (hbz.mono HB2.out.size))
      have f0 := Ch.blk_free hkz 0
      have f1 := Ch.blk_free hkz 1
      have f2 := Ch.blk_free hkz 2
      have f3 := Ch.blk_free hkz 3
      have f4 := Ch.blk_free hkz 4
      have f5 := Ch.blk_free hkz 5
      have g0 : wz.cell? ⟨w.heap.size, 0, none⟩ = some (.int .i64 0) := Ch.blk_cell hkz 0
      have g1 : wz.cell? ⟨w.heap.size, 1, none⟩ = some (.int .i64 0) := Ch.blk_cell hkz 1
      have g2 : wz.cell? ⟨w.heap.size, 2, none⟩ = some (.int .i64 0) := Ch.blk_cell hkz 2
      have g3 : wz.cell? ⟨w.heap.size, 3, none⟩ = some (.slice none 0 0) := Ch.blk_cell hkz 3
      have g4 : wz.cell? ⟨w.heap.size, 4, none⟩ = some (.slice none 0 0) := Ch.blk_cell hkz 4
      have g5 : wz.cell? ⟨w.heap.size, 5, none⟩ = some (.slice none 0 0) := Ch.blk_cell hkz 5
      have gl := Ch.blk_lt hkz
      clear hbz
      go_wp2
      refine bodyPost_ret (results_cell_row Tryz.results8 _ _ w.heap.size 28 #[.int .i64 (vf), .int .i64 0, .int .i64 0, .slice none 0 0, .slice none 0 0, .slice none 0 0] (0, 0) _ rfl (set6 hkz _ _ _ _ _ _) Tryz.underlying28 rfl info6) rfl ?_
      exact SPost.bad HX.out HBZ.out (Nat.le_refl _) _ _ _ _ _ _
  · have b0 : (pFault ss != 0) = true := bne_iff_ne.2 hp
    have HX := hid (s_proc (vars := vars) (now := now) hp)
    clear hp
    generalize startC ss vars now = tc at *
    generalize startR ss vars now = tr at *
    generalize pFault ss = pf at *
    have HBD := hid (specBad (pf) w1)
    go_wp2_with fail
    refine HBD.out.mono ?_
    rintro e wz ⟨rfl, hbz⟩
    have hkz := rb_b hk1 hbz
    have HBZ := hid (HB1.out.trans (hbz.mono HB1.out.size))
    have f0 := Ch.blk_free hkz 0
    have f1 := Ch.blk_free hkz 1
    have f2 := Ch.blk_free hkz 2
    have f3 := Ch.blk_free hkz 3
    have f4 := Ch.blk_free hkz 4
    have f5 := Ch.blk_free hkz 5
    have g0 : wz.cell? ⟨w.heap.size, 0, none⟩ = some (.int .i64 0) := Ch.blk_cell hkz 0
    have g1 : wz.cell? ⟨w.heap.size, 1, none⟩ = some (.int .i64 0) := Ch.blk_cell hkz 1
    have g2 : wz.cell? ⟨w.heap.size, 2, none⟩ = some (.int .i64 0) := Ch.blk_cell hkz 2
    have g3 : wz.cell? ⟨w.heap.size, 3, none⟩ = some (.slice none 0 0) := Ch.blk_cell hkz 3
    have g4 : wz.cell? ⟨w.heap.size, 4, none⟩ = some (.slice none 0 0) := Ch.blk_cell hkz 4
    have g5 : wz.cell? ⟨w.heap.size, 5, none⟩ = some (.slice none 0 0) := Ch.blk_cell hkz 5
    have gl := Ch.blk_lt hkz
    clear hbz
    go_wp2
    refine bodyPost_ret (results_cell_row Tryz.results8 _ _ w.heap.size 28 #[.int .i64 (pf), .int .i64 0, .int .i64 0, .slice none 0 0, .slice none 0 0, .slice none 0 0] (0, 0) _ rfl (set6 hkz _ _ _ _ _ _) Tryz.underlying28 rfl info6) rfl ?_
    exact SPost.bad HX.out HBZ.out (Nat.le_refl _) _ _ _ _ _ _
end Kw
end Go.Proofs.YtpgbjpfpgbjbeaaGreatDoor
