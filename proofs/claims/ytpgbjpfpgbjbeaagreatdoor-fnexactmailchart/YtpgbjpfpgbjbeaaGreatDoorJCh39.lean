/- Laid together: KuH, KuI, KtE. -/
import Derived.Test.YtpgbjpfpgbjbeaaGreatDoorJCh38
import Derived.Test.YtpgbjpfpgbjbeaaGreatDoorJCh35
/- What the program does when a step is over: the side of an 'and', and the three closures. -/
namespace Go.Proofs.YtpgbjpfpgbjbeaaGreatDoor
open Go.RowKit Go.Deep
set_option linter.unusedVariables false
set_option linter.unusedSimpArgs false
namespace Ku
open Ex (inR evalCode evalVal vFault hid)
open St (StepD)
open Pf
open Kc (CS upd zer endOf stopped idle pick aft allOver kid go mE mO Ok kid_mem kid_lt kid_in KAt Rides kval PBlk cntK beginG behindG)
theorem cnt_all (s : CS) (l : List Nat) : (((cntK s.acts l 2 : Nat) : Int) == (l.length : Int)) = allOver s l := by
  unfold cntK allOver
  cases h : l.all fun k => s.acts k == 2
  · refine beq_eq_false_iff_ne.2 (fun e => ?_)
    have e2 : (l.filter fun j => s.acts j == 2).length = l.length := by exact_mod_cast e
    have h3 := List.length_filter_eq_length_iff.1 e2
    rw [List.all_eq_true.2 h3] at h
    cases h
  · have e2 := List.length_filter_eq_length_iff.2 (List.all_eq_true.1 h)
    rw [e2]
    exact beq_self_eq_true _
def sided (ss : List StepD) (f : Nat) (s : CS) (k a : Nat) : CS := if allOver (Kc.act s k 2) (kidsL ss a) = true then go ss f true a (Kc.act s k 2) else Kc.act s k 2
set_option maxRecDepth 100000 in
set_option maxHeartbeats 16000000 in
theorem endSideU (wg w : World) (R : Nat) (u : Value) (ss : List StepD) (s : CS) (k a f : Nat) (kv vc ve : Value) (hp : pFault ss = 0) (hk : k < ss.length) (ha : a < ss.length) (hm : mO ss a ≤ f) (hok : Ok s) (hO : OverU wg R u ss f) (hpc : PCells wg ss a ha kv vc ve) (h : KAt wg w R u ss s) :
    Calls Tryz.prog 116 #[.pointer (some ⟨R, 0, none⟩), .agg #[.int .i64 (a : Int), .int .i64 ((path ss (a + 1)).length : Int), kv, .int .i64 ss[a].kind, .int .i64 ss[a].parent, .string ss[a].name, .int .i64 ss[a].arg, vc, ve], .int .i64 (k : Int)] w (UPost wg R u ss (sided ss f s k a) w) := by
  have hl : ss.length ≤ 24 := by have := (of_p hp).1; omega
  have HPC := hid hpc
  obtain ⟨ak, ck, rfl⟩ := hpc.kids.slice
  obtain ⟨ac, cc, rfl⟩ := hpc.cond.slice
  obtain ⟨ae, ce, rfl⟩ := hpc.expr.slice
  have hRl := h.lt
  have hKS := KAt.act h hk hl 2
  obtain ⟨wS, eS⟩ : ∃ wS, wS = w.setCell ⟨R, 7 + k, none⟩ (.int .i64 2) := ⟨_, rfl⟩
  have hsz : wS.heap.size = w.heap.size := by rw [eS]; simp [World.setCell]
  rw [← eS] at hKS
  have hRS : Rides R w wS := by rw [eS]; exact Rides.set R _ _ _
  obtain ⟨w1, e1⟩ : ∃ w1, w1 = wS.alloc (.cells #[.int .i64 (a : Int), .int .i64 ((path ss (a + 1)).length : Int), .slice ak (kidsL ss a).length ck, .int .i64 ss[a].kind, .int .i64 ss[a].parent, .string ss[a].name, .int .i64 ss[a].arg, .slice ac ss[a].cond.length cc, .slice ae ss[a].expr.length ce] 86) := ⟨_, rfl⟩
  have hb1 : Below wS.heap.size wS w1 := by rw [e1]; exact (Below.refl _ wS).alloc (Nat.le_refl _) _
  have hx1 : PBlk w1 w.heap.size #[.int .i64 (a : Int), .int .i64 ((path ss (a + 1)).length : Int), .slice ak (kidsL ss a).length ck, .int .i64 ss[a].kind, .int .i64 ss[a].parent, .string ss[a].name, .int .i64 ss[a].arg, .slice ac ss[a].cond.length cc, .slice ae ss[a].expr.length ce] := by rw [← hsz, e1]; exact Ch.new_blk _ _
  have hK1 := hKS.below hb1
  have HR1 := hid (hRS.trans (Rides.of_below hb1))
  have HXB : Hid (∀ wx, Below w1.heap.size w1 wx → PBlk wx w.heap.size #[.int .i64 (a : Int), .int .i64 ((path ss (a + 1)).length : Int), .slice ak (kidsL ss a).length ck, .int .i64 ss[a].kind, .int .i64 ss[a].parent, .string ss[a].name, .int .i64 ss[a].arg, .slice ac ss[a].cond.length cc, .slice ae ss[a].expr.length ce]) := hid (fun wx hb => hx1.below hb)
  have HBd : Hid (Below w1.heap.size w1 w1.drew) := hid (Below.refl _ w1).drew
  have HXd := hid (HXB.out w1.drew HBd.out)
  have HK1 := hid hK1
  have HCK := hid (Kc.countKids wg w1.drew R u ss (Kc.act s k 2) a ha hl _ _ _ ((path ss (a + 1)).length : Int) 2 (hpc.below (hK1.below HBd.out).bel) (hK1.below HBd.out))
  have HO := hid hO
  have HOK := hid (hok.act k 2)
  have mA := h.cA (i := k) (by omega)
  have fA := h.free (7 + k)
  have q1 : (k : Int) < 24 := by omega
  have q2 : (0 : Int) ≤ (k : Int) := by omega
  rw [eS] at e1
  have E1r := hid e1
  have hk24 : (kidsL ss a).length ≤ 24 := by have := kidsN_le ss ss.length a; unfold kidsL; omega
  obtain ⟨tgt, et⟩ : ∃ tgt, tgt = sided ss f s k a := ⟨_, rfl⟩
  rw [← et]
  unfold sided at et
  have hca := cnt_all (Kc.act s k 2) (kidsL ss a)
  have hcle : cntK (Kc.act s k 2).acts (kidsL ss a) 2 ≤ (kidsL ss a).length := List.length_filter_le _ _
  generalize allOver (Kc.act s k 2) (kidsL ss a) = bb at *
  generalize cntK (Kc.act s k 2).acts (kidsL ss a) 2 = cn at *
  have ET := hid et
  clear et h hok hO hpc hK1 hx1 e1 hp hKS eS hRS hb1
  go_enter Tryz.func116, Tryz.ntmps116
  go_wp2
  rw [← E1r.out]
  refine wp_region_held_drew (S := fun wx => PBlk wx w.heap.size #[.int .i64 (a : Int), .int .i64 ((path ss (a + 1)).length : Int), .slice ak (kidsL ss a).length ck, .int .i64 ss[a].kind, .int .i64 ss[a].parent, .string ss[a].name, .int .i64 ss[a].arg, .slice ac ss[a].cond.length cc, .slice ae ss[a].expr.length ce]) (by kernel_rfl) HXd.out (fun hHeld => ?_)
  refine wpAnyH_take (i := 0) (v := .pointer (some ⟨R, 0, none⟩)) rfl (by kernel_rfl) (by kernel_rfl) (by kernel_rfl) (fun _ _ _ h => h) (Or.inl ⟨by kernel_rfl, by intro w hSw; (try dsimp only at hSw); go_simp⟩) (by assumption) ?_
  simp only [Act.put, List.setIfInBounds_toArray, List.set_cons_zero, List.set_cons_succ]
  refine wpAnyH_take (i := 1) (v := .agg #[.int .i64 (a : Int), .int .i64 ((path ss (a + 1)).length : Int), .slice ak (kidsL ss a).length ck, .int .i64 ss[a].kind, .int .i64 ss[a].parent, .string ss[a].name, .int .i64 ss[a].arg, .slice ac ss[a].cond.length cc, .slice ae ss[a].expr.length ce]) rfl (by kernel_rfl) (by kernel_rfl) (by kernel_rfl) (fun _ _ _ h => h) (Or.inl ⟨by kernel_rfl, by intro w hSw; (try dsimp only at hSw); have m0 := PBlk.cell hSw 0; have m1 := PBlk.cell hSw 1; have m2 := PBlk.cell hSw 2; have m3 := PBlk.cell hSw 3; have m4 := PBlk.cell hSw 4; have m5 := PBlk.cell hSw 5; have m6 := PBlk.cell hSw 6; have m7 := PBlk.cell hSw 7; have m8 := PBlk.cell hSw 8; simp only [List.getElem?_toArray, List.getElem?_cons_succ, List.getElem?_cons_zero] at m0 m1 m2 m3 m4 m5 m6 m7 m8; clear hSw; go_simp⟩) (by assumption) ?_
  simp only [Act.put, List.setIfInBounds_toArray, List.set_cons_zero, List.set_cons_succ]
  refine wpAnyH_take (i := 3) (v := .pointer (some ⟨w.heap.size, 0, none⟩)) rfl (by kernel_rfl) (by kernel_rfl) (by kernel_rfl) (fun _ _ _ h => h) (Or.inl ⟨by kernel_rfl, by intro w hSw; (try dsimp only at hSw); go_simp⟩) (by assumption) ?_
  simp only [Act.put, List.setIfInBounds_toArray, List.set_cons_zero, List.set_cons_succ]
  refine wpAnyH_take (i := 4) (v := .pointer (some ⟨w.heap.size, 2, none⟩)) rfl (by kernel_rfl) (by kernel_rfl) (by kernel_rfl) (fun _ _ _ h => h) (Or.inl ⟨by kernel_rfl, by intro w hSw; (try dsimp only at hSw); go_simp⟩) (by assumption) ?_
  simp only [Act.put, List.setIfInBounds_toArray, List.set_cons_zero, List.set_cons_succ]
  refine wpAnyH_take (i := 5) (v := .slice ak (kidsL ss a).length ck) rfl (by kernel_rfl) (by kernel_rfl) (by kernel_rfl) (fun _ _ _ h => h) (Or.inl ⟨by kernel_rfl, by intro w hSw; (try dsimp only at hSw); have m2 := PBlk.cell hSw 2; simp only [List.getElem?_toArray, List.getElem?_cons_succ, List.getElem?_cons_zero] at m2; clear hSw; go_simp⟩) (by assumption) ?_
  simp only [Act.put, List.setIfInBounds_toArray, List.set_cons_zero, List.set_cons_succ]
  refine wpAnyH_take (i := 6) (v := .int .i64 ((kidsL ss a).length : Int)) rfl (by kernel_rfl) (by kernel_rfl) (by kernel_rfl) (fun _ _ _ h => h) (Or.inl ⟨by kernel_rfl, by intro w hSw; (try dsimp only at hSw); go_simp⟩) (by assumption) ?_
  simp only [Act.put, List.setIfInBounds_toArray, List.set_cons_zero, List.set_cons_succ]
  refine wpAnyH_ready (rs := [2]) (by kernel_rfl) (by simp) ?_
  refine AllReadyH.cons rfl (fun K hK => ?_) AllReadyH.nil
  go_simp
  go_at_call 132
  refine HCK.out.mono ?_
  rintro e q1 ⟨rfl, hq1⟩
  have HB1 := hid (HBd.out.trans (hq1.mono HBd.out.size))
  have hXq := HXB.out _ HB1.out
  clear hq1
  go_wp2_with fail
  refine hK.out _ _ hXq (fun hHeld => ?_)
  clear hK K
  try simp only [Act.put, List.setIfInBounds_toArray, List.set_cons_zero, List.set_cons_succ]
  refine wpAnyH_take (i := 7) (v := .bool bb) rfl (by kernel_rfl) (by kernel_rfl) (by kernel_rfl) (fun _ _ _ h => h) (Or.inl ⟨by kernel_rfl, by intro w hSw; (try dsimp only at hSw); go_simp⟩) (by assumption) ?_
  simp only [Act.put, List.setIfInBounds_toArray, List.set_cons_zero, List.set_cons_succ]
  refine wpAnyH_done (by kernel_rfl) ?_ _
  have HKq := hid (HK1.out.below HB1.out)
  have HRq := hid (HR1.out.trans (Rides.of_below HB1.out))
  have d0 := PBlk.cell hXq 0
  simp only [List.getElem?_toArray, List.getElem?_cons_succ, List.getElem?_cons_zero] at d0
  have hlq : w.heap.size < q1.heap.size := Ch.blk_lt hXq
  clear hHeld hXq HCK hca
  cases bb
  · have HX : Hid (tgt = Kc.act s k 2) := hid (by rw [ET.out]; rfl)
    go_wp2
    go_end0
    exact ⟨rfl, by rw [HX.out]; exact HKq.out, HRq.out⟩
  · have HX : Hid (tgt = go ss f true a (Kc.act s k 2)) := hid (by rw [ET.out]; rfl)
    have HOV := hid (HO.out a _ q1 ha hm HOK.out HKq.out)
    go_wp2_with (go_at_call 54; refine HOV.out.mono ?_; rintro e w6 hT; obtain rfl := hT.1; have HU := hid hT; clear hT)
    go_end0
    exact UPost.of' HU.out HRq.out HX.out
set_option maxRecDepth 100000 in
set_option maxHeartbeats 4000000 in
theorem behind1 (wg w : World) (R b1 : Nat) (u : Value) (ss : List StepD) (s : CS) (um : FrameMode) (hl : ss.length ≤ 24) (h1 : w.heap[b1]? = some (.cells #[.pointer (some ⟨R, 0, none⟩)] 66)) (h : KAt wg w R u ss s) :
    CallsD Tryz.prog 113 #[.pointer (some ⟨b1, 0, none⟩)] um w fun e u' w' => u' = um ∧ UPost wg R u ss (stopped s 2) w e w' := by
  have d1 := Ch.blk_cell h1 0
  simp only [List.getElem?_toArray, List.getElem?_cons_succ, List.getElem?_cons_zero] at d1
  have HSP := hid (stop wg w R u ss s 2 hl h)
  clear h1 h
  go_enter_d Tryz.func113, Tryz.ntmps113
  go_wp2_with (go_at_call 114; refine HSP.out.mono ?_; rintro e w6 hT; obtain rfl := hT.1; have HU := hid hT; clear hT)
  go_end0
  exact HU.out
set_option maxRecDepth 100000 in
set_option maxHeartbeats 4000000 in
theorem behind3 (wg w : World) (R b1 b3 : Nat) (u : Value) (ss : List StepD) (s : CS) (a f : Nat) (x1 x2 x3 x4 x5 x6 x7 x8 : Value) (um : FrameMode) (hO : OverU wg R u ss f) (ha : a < ss.length) (hm : mO ss a ≤ f) (hok : Ok s) (h1 : w.heap[b1]? = some (.cells #[.pointer (some ⟨R, 0, none⟩)] 66)) (h3 : PBlk w b3 #[.int .i64 (a : Int), x1, x2, x3, x4, x5, x6, x7, x8]) (h : KAt wg w R u ss s) :
    CallsD Tryz.prog 119 #[.pointer (some ⟨b1, 0, none⟩), .pointer (some ⟨b3, 0, none⟩)] um w fun e u' w' => u' = um ∧ UPost wg R u ss (go ss f true a s) w e w' := by
  have d1 := Ch.blk_cell h1 0
  have d3 := PBlk.cell h3 0
  simp only [List.getElem?_toArray, List.getElem?_cons_succ, List.getElem?_cons_zero] at d1 d3
  have HOV := hid (hO a s w ha hm hok h)
  have l3 := Ch.blk_lt h3
  clear h1 h h3 hO hok
  generalize go ss f true a s = tgt at *
  go_enter_d Tryz.func119, Tryz.ntmps119
  go_wp2_with (go_at_call 54; refine HOV.out.mono ?_; rintro e w6 hT; obtain rfl := hT.1; have HU := hid hT; clear hT)
  go_end0
  exact HU.out
set_option maxRecDepth 100000 in
set_option maxHeartbeats 4000000 in
theorem behind2 (wg w : World) (R b1 b2 b3 : Nat) (u : Value) (ss : List StepD) (s : CS) (k a f : Nat) (kv vc ve : Value) (um : FrameMode) (hp : pFault ss = 0) (hO : OverU wg R u ss f) (hk : k < ss.length) (ha : a < ss.length) (hm : mO ss a ≤ f) (hok : Ok s) (h1 : w.heap[b1]? = some (.cells #[.pointer (some ⟨R, 0, none⟩)] 66)) (h2 : w.heap[b2]? = some (.cells #[.int .i64 (k : Int)] 2)) (h3 : PBlk w b3 #[.int .i64 (a : Int), .int .i64 ((path ss (a + 1)).length : Int), kv, .int .i64 ss[a].kind, .int .i64 ss[a].parent, .string ss[a].name, .int .i64 ss[a].arg, vc, ve]) (hpc : PCells wg ss a ha kv vc ve) (h : KAt wg w R u ss s) :
    CallsD Tryz.prog 115 #[.pointer (some ⟨b1, 0, none⟩), .pointer (some ⟨b3, 0, none⟩), .pointer (some ⟨b2, 0, none⟩)] um w fun e u' w' => u' = um ∧ UPost wg R u ss (sided ss f s k a) w e w' := by
  have HES := hid (endSideU wg w R u ss s k a f kv vc ve hp hk ha hm hok hO hpc h)
  obtain ⟨ak, ck, rfl⟩ := hpc.kids.slice
  obtain ⟨ac, cc, rfl⟩ := hpc.cond.slice
  obtain ⟨ae, ce, rfl⟩ := hpc.expr.slice
  have d1 := Ch.blk_cell h1 0
  have d2 := Ch.blk_cell h2 0
  have s0 := PBlk.cell h3 0
  have s1 := PBlk.cell h3 1
  have s2 := PBlk.cell h3 2
  have s3 := PBlk.cell h3 3
  have s4 := PBlk.cell h3 4
  have s5 := PBlk.cell h3 5
  have s6 := PBlk.cell h3 6
  have s7 := PBlk.cell h3 7
  have s8 := PBlk.cell h3 8
  simp only [List.getElem?_toArray, List.getElem?_cons_succ, List.getElem?_cons_zero] at d1 d2 s0 s1 s2 s3 s4 s5 s6 s7 s8
  clear h1 h h2 h3 hO hok hpc hp
  generalize sided ss f s k a = tgt at *
  go_enter_d Tryz.func115, Tryz.ntmps115
  go_wp2_with (go_at_call 116; refine HES.out.mono ?_; rintro e w6 hT; obtain rfl := hT.1; have HU := hid hT; clear hT)
  go_end0
  exact HU.out
end Ku
end Go.Proofs.YtpgbjpfpgbjbeaaGreatDoor
/- A step over, by the program, where what is behind it is given. -/
namespace Go.Proofs.YtpgbjpfpgbjbeaaGreatDoor
open Go.RowKit Go.Deep
set_option linter.unusedVariables false
set_option linter.unusedSimpArgs false
namespace Ku
open Ex (inR evalCode evalVal vFault hid)
open St (StepD)
open Pf
open Kc (CS upd zer endOf stopped idle pick aft allOver kid go mE mO Ok kid_mem kid_lt kid_in KAt Rides kval PBlk cntK beginG behindG)
/-- What the program keeps for the time when the step is idle. -/
def NextU (wg : World) (R : Nat) (u : Value) (ss : List StepD) (f k : Nat) (F : FuncId) (caps : Array Value) (w : World) : Prop :=
  ∀ (um : FrameMode) wx s, Ok s → KAt wg wx R u ss s → Rides R w wx → CallsD Tryz.prog F caps um wx fun e u' w' => u' = um ∧ UPost wg R u ss (behindG (go ss f false) (go ss f true) ss k s) wx e w'
def BehindU (wg : World) (R : Nat) (u : Value) (ss : List StepD) (f : Nat) : Prop :=
  ∀ k s w, k < ss.length → mO ss k ≤ f + 1 → KAt wg w R u ss s → Calls Tryz.prog 83 #[.pointer (some ⟨R, 0, none⟩), .int .i64 (k : Int)] w fun e w' => (∃ F caps, e = .returned (.func (.func F) #[] caps) ∧ (∀ wx, (callFunc F caps).run Tryz.prog wx = .ok (Next.enter F caps) wx) ∧ NextU wg R u ss f k F caps w') ∧ Below w.heap.size w w'
set_option maxRecDepth 100000 in
set_option maxHeartbeats 2000000 in
theorem indexU (l : List Nat) (v : Value) (x j : Nat) (w : World) (hn : l.length ≤ 24) (h : KidsAt w v l) (hj : j < l.length) (hx : l[j] = x) (hne : ∀ i (hi : i < l.length), i < j → l[i] ≠ x) :
    Calls Tryz.prog 118 #[v, .int .i64 (x : Int)] w fun e w' => e = .returned (.int .i64 (j : Int)) ∧ w' = w := by
  obtain ⟨bk, ck, rfl, hbk, _, _, hcell⟩ := Kc.kids_at h (by omega)
  have HC := hid hcell
  have HNE := hid hne
  clear h hcell hne
  go_enter Tryz.func118, Tryz.ntmps118
  go_wp2
  go_loop [8] (fun y => ∃ i : Nat, i ≤ j ∧ y = .int .i64 i) (fun y => l.length - (intOf y).toNat)
  case atStart => exact ⟨0, Nat.zero_le _, rfl⟩
  case round =>
    obtain ⟨i, hi, rfl⟩ := hrel
    have hil : i < l.length := by omega
    have c1 := HC.out i hil
    have q1 : (i : Int) < (l.length : Int) := by omega
    by_cases e : i = j
    · subst e
      rw [hx] at c1
      go_wp2
      go_ret
      exact ⟨rfl, rfl⟩
    · have h9 := HNE.out i hil (by omega)
      have b1 : ((x : Int) == (l[i] : Int)) = false := beq_eq_false_iff_ne.2 (by omega)
      generalize l[i] = y at *
      go_wp2
      exact ⟨⟨i + 1, by omega, by simp⟩, by simp [intOf]; omega⟩
set_option maxRecDepth 100000 in
set_option maxHeartbeats 4000000 in
theorem overU {wg : World} {R : Nat} {u : Value} {ss : List StepD} {f : Nat} (hp : pFault ss = 0) (hBH : BehindU wg R u ss f) : OverU wg R u ss (f + 1) := by
  intro k s w hk hm hok h
  have HB := hid (hBH k s w hk hm h)
  have HK := hid h
  have HOK := hid (hok.idle (ss := ss) k)
  have HP := hid hp
  have HGO := hid (Kc.go_over ss f k s)
  obtain ⟨tgt, et⟩ : ∃ tgt, tgt = go ss (f + 1) true k s := ⟨_, rfl⟩
  rw [← et] at HGO ⊢
  clear et hBH h hok hp hm
  go_enter_defers Tryz.func54, Tryz.ntmps54
  go_wp2_with (go_at_call 83; refine HB.out.mono ?_; rintro e w1 ⟨⟨F, caps, rfl, hcf, hnx⟩, hb1⟩)
  have HNX := hid hnx
  have HB1 := hid hb1
  have HRS := hid (rest wg w1 R u ss s k HP.out hk (HK.out.below hb1))
  clear hnx hb1
  go_wp2_with (go_at_call 84; refine HRS.out.mono ?_; rintro e w2 hT; obtain rfl := hT.1; have HU := hid hT; clear hT)
  refine leaves_cons (f := F) (args := caps) (by simp) (by simp [go_sem, hcf]) ?_
  refine (HNX.out .returning w2 (idle ss s k) HOK.out HU.out.2.1 HU.out.2.2).mono ?_
  rintro e u' w3 ⟨rfl, hU⟩
  obtain rfl := hU.1
  exact ⟨_, results_none Tryz.results54 _ _ _, rfl, by rw [HGO.out]; exact hU.2.1, ((Rides.of_below HB1.out).trans HU.out.2.2).trans hU.2.2⟩
end Ku
end Go.Proofs.YtpgbjpfpgbjbeaaGreatDoor
/- A step that is over, by the specification; both, as far as they go. -/
namespace Go.Proofs.YtpgbjpfpgbjbeaaGreatDoor
open Go.RowKit Go.Deep
set_option linter.unusedVariables false
set_option linter.unusedSimpArgs false
namespace Kt
open Ex (inR evalCode evalVal vFault hid)
open St (StepD)
open Pf
open Kc (CS upd zer endOf stopped idle pick aft allOver kid go mE mO Ok kid_mem kid_lt kid_in beginG behindG)
theorem bh0 {E O : Nat → CS → CS} {ss : List StepD} {k : Nat} {s : CS} (h : (PJ ss k).parent < 0) : behindG E O ss k s = stopped s 2 := by unfold behindG; rw [if_pos h]
theorem bh4 {E O : Nat → CS → CS} {ss : List StepD} {k p : Nat} {s : CS} (h : (PJ ss k).parent = (p : Int)) (h4 : (PJ ss p).kind = 4) : behindG E O ss k s = (if allOver (Kc.act s k 2) (kidsL ss p) = true then O p (Kc.act s k 2) else Kc.act s k 2) := by unfold behindG; rw [if_neg (by omega), h, Int.toNat_natCast, if_pos h4]
theorem bh1s {E O : Nat → CS → CS} {ss : List StepD} {k p j : Nat} {s : CS} (h : (PJ ss k).parent = (p : Int)) (h1 : (PJ ss p).kind = 1) (ha : aft (kidsL ss p) k = some j) : behindG E O ss k s = E j s := by unfold behindG; rw [if_neg (by omega), h, Int.toNat_natCast, if_neg (by omega), if_pos h1, ha]
theorem bh1n {E O : Nat → CS → CS} {ss : List StepD} {k p : Nat} {s : CS} (h : (PJ ss k).parent = (p : Int)) (h1 : (PJ ss p).kind = 1) (ha : aft (kidsL ss p) k = none) : behindG E O ss k s = O p s := by unfold behindG; rw [if_neg (by omega), h, Int.toNat_natCast, if_neg (by omega), if_pos h1, ha]
theorem bhx {E O : Nat → CS → CS} {ss : List StepD} {k p : Nat} {s : CS} (h : (PJ ss k).parent = (p : Int)) (h4 : (PJ ss p).kind ≠ 4) (h1 : (PJ ss p).kind ≠ 1) : behindG E O ss k s = O p s := by unfold behindG; rw [if_neg (by omega), h, Int.toNat_natCast, if_neg h4, if_neg h1]
set_option maxRecDepth 100000 in
set_option maxHeartbeats 32000000 in
theorem overStep (wg : World) (P : Pos) (v : Value) (ss : List StepD) (f : Nat) (hp : pFault ss = 0) (hE : EnterAt wg P v ss f) (hO : OverAt wg P v ss f) : OverAt wg P v ss (f + 1) := by
  intro k s w hk hm hok h
  have hl : ss.length ≤ 24 := by have := (of_p hp).1; omega
  have HV := hid (Kc.go_over ss f k s)
  have HID := hid (specIdle wg w P v ss s k hp hk h)
  have HOK : Hid (Ok (idle ss s k)) := hid (hok.idle k)
  obtain ⟨a, cap, rfl⟩ := h.st.slice
  obtain ⟨g, o, vc, ve, e1, hg, p0, p1, p2, p3, p4, p5, _⟩ := h.st.at hk
  cases e1
  have HPJ := hid (PJ_eq hk)
  have HP := hid hp
  have HE := hid hE
  have HO := hid hO
  have q0 : (k : Int) < (ss.length : Int) := by omega
  have hpl := par_lt (first_all (of_p hp).2.1 hk)
  rw [PJ_eq hk] at hpl
  clear h hok hE hO p0 p2 p3 p4 p5 hp
  generalize idle ss s k = s1 at *
  go_enter Tryz.func50, Tryz.ntmps50
  go_wp2_with fail
  refine HID.out.mono ?_
  rintro e w1 hT
  obtain rfl := hT.1
  have HS1 := hid hT.2.1
  have HR1 := hid hT.2.2
  have r1 := (HS1.out.bel.cell (p := ⟨g, o + k * 6 + 1, none⟩) hg).trans p1
  clear hT HID p1
  by_cases hneg : ss[k].parent < 0
  · have HX := hid (HV.out.trans (bh0 (by rw [HPJ.out]; exact hneg)))
    have HEN := hid (specEnd wg w1 P _ ss s1 2 hl HS1.out)
    go_wp2_with (go_at_call 65; refine HEN.out.mono ?_; rintro e w4 hT; obtain rfl := hT.1; have HT := hid hT; clear hT)
    first
      | go_end0
      | refine bodyPost_ret (results_none Tryz.results50 _ _ _) rfl ?_
    exact HT.out.of HR1.out HX.out
  · obtain ⟨p, hpp⟩ : ∃ p : Nat, ss[k].parent = (p : Int) := ⟨ss[k].parent.toNat, by omega⟩
    have hpn : p < ss.length := by omega
    have hpj : (PJ ss k).parent = (p : Int) := by rw [HPJ.out]; exact hpp
    have hmem : k ∈ kidsL ss p := kid_mem.2 ⟨hk, hpj⟩
    have HMU : Hid (mO ss p ≤ f) := hid (by have := Kc.m_up HP.out hmem; omega)
    have HMN : Hid (∀ j, aft (kidsL ss p) k = some j → j < ss.length ∧ mE ss j ≤ f) := hid (fun j hj => ⟨(kid_lt HP.out (Kc.aft_mem (Kc.kids_sorted ss p) hj).2.1).2, by have := Kc.m_next HP.out hj; omega⟩)
    have HK : Hid ((PJ ss p).kind = ss[p].kind) := hid (by rw [PJ_eq hpn])
    have HPAR := hid hpj
    obtain ⟨g', o', vc', ve', e2, hg', k0, _⟩ := HS1.out.st.at hpn
    cases e2
    have rk := (HS1.out.bel.cell (p := ⟨g, o + p * 6, none⟩) hg).trans k0
    rw [hpp] at r1
    have q1 : (p : Int) < (ss.length : Int) := by omega
    have q2 : ¬ (p : Int) < 0 := by omega
    clear hneg hpp hpl hmem hpj k0
    by_cases h1 : ss[p].kind = 1
    · rw [h1] at rk
      have HAF := hid (specAfter ss _ k p w1 hl hk HPAR.out HS1.out.proc)
      cases hja : aft (kidsL ss p) k with
      | some j =>
        have HX := hid (HV.out.trans (bh1s HPAR.out (by rw [HK.out]; exact h1) hja))
        have hj := HMN.out j hja
        rw [hja] at HAF
        clear hja h1
        go_wp2_with fail
        refine HAF.out.mono ?_
        rintro e w2 ⟨rfl, hb2⟩
        have HC := hid (HE.out j s1 w2 hj.1 hj.2 HOK.out (HS1.out.below hb2))
        have HR2 := hid (HR1.out.trans (Ride.of_below hb2))
        have q3 : (0 : Int) ≤ (j : Int) := by omega
        clear hb2
        unfold optI
        go_wp2_with (go_at_call 35; refine HC.out.mono ?_; rintro e w4 hT; obtain rfl := hT.1; have HT := hid hT; clear hT)
        first
          | go_end0
          | refine bodyPost_ret (results_none Tryz.results50 _ _ _) rfl ?_
        exact HT.out.of HR2.out HX.out
      | none =>
        have HX := hid (HV.out.trans (bh1n HPAR.out (by rw [HK.out]; exact h1) hja))
        rw [hja] at HAF
        clear hja h1
        go_wp2_with fail
        refine HAF.out.mono ?_
        rintro e w2 ⟨rfl, hb2⟩
        have HC := hid (HO.out p s1 w2 hpn HMU.out HOK.out (HS1.out.below hb2))
        have HR2 := hid (HR1.out.trans (Ride.of_below hb2))
        clear hb2
        unfold optI
        go_wp2_with (go_at_call 50; refine HC.out.mono ?_; rintro e w4 hT; obtain rfl := hT.1; have HT := hid hT; clear hT)
        go_end0
        exact HT.out.of HR2.out HX.out
    · have b1 : (ss[p].kind == 1) = false := by simp [h1]
      by_cases h4 : ss[p].kind = 4
      · rw [h4] at rk
        have HX := hid (HV.out.trans (bh4 HPAR.out (by rw [HK.out]; exact h4)))
        have m3 := HS1.out.c3
        have mA := HS1.out.ra.cell hk
        have fA := HS1.out.ra.free k
        obtain ⟨wA, eA⟩ : ∃ wA, wA = w1.setCell ⟨P.A, k, none⟩ (.int .i64 2) := ⟨_, rfl⟩
        have HSA := hid (HS1.out.setA hk 2)
        rw [← eA] at HSA
        have HRA : Hid (Ride P w1 wA) := hid (by rw [eA]; exact Ride.set _ _ _ _ (by simp))
        have HAL := hid (specAll wg wA P _ ss (Kc.act s1 k 2) p hl HSA.out)
        have HOK2 : Hid (Ok (Kc.act s1 k 2)) := hid (HOK.out.act k 2)
        clear h1 h4 b1
        generalize Kc.act s1 k 2 = s2 at *
        cases hov : allOver s2 (kidsL ss p)
        · have HX2 : Hid (go ss (f + 1) true k s = s2) := hid (by rw [HX.out, hov]; rfl)
          rw [hov] at HAL
          clear hov HX
          go_wp2_with fail
          rw [← eA]
          refine HAL.out.mono ?_
          rintro e w2 ⟨rfl, hb2⟩
          have HR2 := hid ((HR1.out.trans HRA.out).trans (Ride.of_below hb2))
          have HS2 := hid (HSA.out.below hb2)
          clear hb2 eA
          go_wp2
          first
            | go_end0
            | refine bodyPost_ret (results_none Tryz.results50 _ _ _) rfl ?_
          exact ⟨rfl, by rw [HX2.out]; exact HS2.out, HR2.out⟩
        · have HX2 : Hid (go ss (f + 1) true k s = go ss f true p s2) := hid (by rw [HX.out, hov]; rfl)
          rw [hov] at HAL
          clear hov HX
          go_wp2_with fail
          rw [← eA]
          refine HAL.out.mono ?_
          rintro e w2 ⟨rfl, hb2⟩
          have HR2 := hid ((HR1.out.trans HRA.out).trans (Ride.of_below hb2))
          have HC := hid (HO.out p s2 w2 hpn HMU.out HOK2.out (HSA.out.below hb2))
          clear hb2 eA
          go_wp2_with (go_at_call 50; refine HC.out.mono ?_; rintro e w4 hT; obtain rfl := hT.1; have HT := hid hT; clear hT)
          go_end0
          exact HT.out.of HR2.out HX2.out
      · have b4 : (ss[p].kind == 4) = false := by simp [h4]
        have HX := hid (HV.out.trans (bhx HPAR.out (by rw [HK.out]; exact h4) (by rw [HK.out]; exact h1)))
        have HC := hid (HO.out p s1 w1 hpn HMU.out HOK.out HS1.out)
        clear h1 h4
        go_wp2_with (go_at_call 50; refine HC.out.mono ?_; rintro e w4 hT; obtain rfl := hT.1; have HT := hid hT; clear hT)
        go_end0
        exact HT.out.of HR1.out HX.out
theorem specGo (wg : World) (P : Pos) (v : Value) (ss : List StepD) (hp : pFault ss = 0) : ∀ f, EnterAt wg P v ss f ∧ OverAt wg P v ss f
  | 0 => ⟨fun k s w hk hm _ _ => by unfold mE at hm; omega, fun k s w hk hm _ _ => by have := Kc.deep_pos ss k; unfold mO at hm; omega⟩
  | f + 1 => ⟨enterStep wg P v ss f hp (specGo wg P v ss hp f).1 (specGo wg P v ss hp f).2, overStep wg P v ss f hp (specGo wg P v ss hp f).1 (specGo wg P v ss hp f).2⟩
end Kt
end Go.Proofs.YtpgbjpfpgbjbeaaGreatDoor
