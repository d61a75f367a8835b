/- A step begun, by the program. -/
import Derived.Test.YtpgbjpfpgbjbeaaGreatDoorJCh37
import Derived.Test.YtpgbjpfpgbjbeaaGreatDoorJCh27
namespace Go.Proofs.YtpgbjpfpgbjbeaaGreatDoor
open Go.RowKit Go.Deep
set_option linter.unusedVariables false
set_option linter.unusedSimpArgs false
namespace Ku
open Ex (inR evalCode evalVal vFault hid)
open St (StepD)
open Pf
open Kt (bg0 bg1 bg3 bg4 bg6 bg7 bg8)
open Kc (CS upd zer endOf stopped idle pick aft allOver kid go mE mO Ok kid_mem kid_lt kid_in KAt Rides kval PBlk cntK beginG behindG)
theorem rides_cell {R : Nat} {w w' : World} (h : Rides R w w') {b o : Nat} (hb : b < w.heap.size) (hn : b ≠ R) : w'.cell? ⟨b, o, none⟩ = w.cell? ⟨b, o, none⟩ := by
  have h9 := h.block b hb hn
  simp only [World.cell?, h9]
set_option maxRecDepth 100000 in
set_option maxHeartbeats 16000000 in
theorem begin1 (wg w : World) (R : Nat) (u : Value) (ss : List StepD) (s : CS) (k f : Nat) (kv vc ve : Value) (hp : pFault ss = 0) (hE : EnterU wg R u ss f) (hO : OverU wg R u ss f) (hk : k < ss.length) (hkd : ss[k].kind = 1) (hm : mE ss k ≤ f + 1) (hok : Ok s) (hpc : PCells wg ss k hk kv vc ve) (h : KAt wg w R u ss s) :
    Calls Tryz.prog 74 #[.pointer (some ⟨R, 0, none⟩), .agg #[.int .i64 (k : Int), .int .i64 ((path ss (k + 1)).length : Int), kv, .int .i64 ss[k].kind, .int .i64 ss[k].parent, .string ss[k].name, .int .i64 ss[k].arg, vc, ve]] w (UPost wg R u ss (beginG (go ss f false) (go ss f true) ss k s) w) := by
  have hl : ss.length ≤ 24 := by have := (of_p hp).1; omega
  have hpk : (PJ ss k).kind = 1 := by rw [PJ_eq hk]; exact hkd
  have hmany := many_of hp hk
  rw [hpk] at hmany
  have hn1 : 0 < (kidsL ss k).length := by have h8 := hmany; simp [manyOk] at h8; omega
  have HKM : Hid (∀ x ∈ kidsL ss k, x < ss.length ∧ mE ss x ≤ f) := hid (fun x hx => ⟨(kid_mem.1 hx).1, by have := Kc.m_kid hp hx; omega⟩)
  obtain ⟨bk, ck, rfl, hbk, _, _, hcell⟩ := Kc.kids_at hpc.kids hn1
  obtain ⟨ac0, cc0, rfl⟩ := hpc.cond.slice
  obtain ⟨ae0, ce0, rfl⟩ := hpc.expr.slice
  have hRl := h.lt
  obtain ⟨w0, e0⟩ : ∃ w0, w0 = w.alloc (.cells #[.int .i64 (k : Int), .int .i64 ((path ss (k + 1)).length : Int), .slice (some ⟨bk, 0, none⟩) (kidsL ss k).length ck, .int .i64 1, .int .i64 ss[k].parent, .string ss[k].name, .int .i64 ss[k].arg, .slice ac0 ss[k].cond.length cc0, .slice ae0 ss[k].expr.length ce0] 86) := ⟨_, rfl⟩
  have hb0 : Below w.heap.size w w0 := by rw [e0]; exact (Below.refl _ w).alloc (Nat.le_refl _) _
  have hx0 : PBlk w0 w.heap.size #[.int .i64 (k : Int), .int .i64 ((path ss (k + 1)).length : Int), .slice (some ⟨bk, 0, none⟩) (kidsL ss k).length ck, .int .i64 1, .int .i64 ss[k].parent, .string ss[k].name, .int .i64 ss[k].arg, .slice ac0 ss[k].cond.length cc0, .slice ae0 ss[k].expr.length ce0] := by rw [e0]; exact Ch.new_blk _ _
  have d0 := hx0.cell 0
  have d1 := hx0.cell 1
  have d2 := hx0.cell 2
  have d3 := hx0.cell 3
  have d4 := hx0.cell 4
  have d5 := hx0.cell 5
  have d6 := hx0.cell 6
  have d7 := hx0.cell 7
  have d8 := hx0.cell 8
  simp only [List.getElem?_toArray, List.getElem?_cons_succ, List.getElem?_cons_zero] at d0 d1 d2 d3 d4 d5 d6 d7 d8
  have hK0 := h.below hb0
  have HK0 := hid hK0
  have HR0 : Hid (Rides R w w0) := hid (Rides.of_below hb0)
  have HOK := hid hok
  have HE := hid hE
  have hlt0 : w.heap.size < w0.heap.size := Ch.blk_lt hx0
  have hRl0 : R < w0.heap.size := by omega
  have hxk : kid ss k 0 = (kidsL ss k)[0] := by unfold kid; rw [List.getD_eq_getElem?_getD, List.getElem?_eq_getElem hn1]; rfl
  have hxm := HKM.out _ (List.getElem_mem hn1)
  have c0 := ((hK0.bel).cell (p := ⟨bk, 0, none⟩) hbk).trans (hcell 0 hn1)
  have hbk0 : bk < w0.heap.size := Nat.lt_of_lt_of_le hbk hK0.bel.size
  obtain ⟨tgt, et⟩ : ∃ tgt, tgt = beginG (go ss f false) (go ss f true) ss k s := ⟨_, rfl⟩
  rw [← et, hkd]
  rw [bg1 hpk] at et
  rw [hxk] at et
  have ET := hid et
  clear et
  clear h hok hE hO hpc hb0 hx0 hp hm hpk hkd hmany
  clear hxk hcell HKM hK0
  generalize (kidsL ss k)[0] = x at *
  have hx := hxm.1
  have HMX := hid hxm.2
  clear hxm
  have q1 : (0 : Int) < ((kidsL ss k).length : Int) := by omega
  generalize (kidsL ss k).length = nk at *
  have HEN := hid (entering wg w0 R u ss s x hl hx HK0.out)
  have c0' := c0
  rw [e0] at c0' HEN HR0 HK0
  go_enter Tryz.func74, Tryz.ntmps74
  go_wp2_with (go_at_call 40; refine HEN.out.mono ?_; rintro e w6 ⟨⟨b1, b2, b3, rfl, hcl⟩, hb6⟩)
  have HE6 := hid (HE.out x s w6 b1 b2 b3 hx HMX.out HOK.out (HK0.out.below hb6) hcl)
  have HR6 := hid (HR0.out.trans (Rides.of_below hb6))
  clear hcl hb6
  go_wp2_with (go_at_call 73; refine HE6.out.mono ?_; rintro e w7 hT; obtain rfl := hT.1; have HU := hid hT; clear hT)
  go_end0
  exact UPost.of' HU.out HR6.out ET.out
set_option maxRecDepth 100000 in
set_option maxHeartbeats 16000000 in
theorem begin3 (wg w : World) (R : Nat) (u : Value) (ss : List StepD) (s : CS) (k f : Nat) (kv vc ve : Value) (hp : pFault ss = 0) (hE : EnterU wg R u ss f) (hO : OverU wg R u ss f) (hk : k < ss.length) (hkd : ss[k].kind = 3) (hm : mE ss k ≤ f + 1) (hok : Ok s) (hpc : PCells wg ss k hk kv vc ve) (h : KAt wg w R u ss s) :
    Calls Tryz.prog 74 #[.pointer (some ⟨R, 0, none⟩), .agg #[.int .i64 (k : Int), .int .i64 ((path ss (k + 1)).length : Int), kv, .int .i64 ss[k].kind, .int .i64 ss[k].parent, .string ss[k].name, .int .i64 ss[k].arg, vc, ve]] w (UPost wg R u ss (beginG (go ss f false) (go ss f true) ss k s) w) := by
  have hl : ss.length ≤ 24 := by have := (of_p hp).1; omega
  have hpk : (PJ ss k).kind = 3 := by rw [PJ_eq hk]; exact hkd
  have hmany := many_of hp hk
  rw [hpk] at hmany
  obtain ⟨ak, ck, rfl⟩ := hpc.kids.slice
  obtain ⟨ac0, cc0, rfl⟩ := hpc.cond.slice
  obtain ⟨ae0, ce0, rfl⟩ := hpc.expr.slice
  have hRl := h.lt
  obtain ⟨w0, e0⟩ : ∃ w0, w0 = w.alloc (.cells #[.int .i64 (k : Int), .int .i64 ((path ss (k + 1)).length : Int), .slice ak (kidsL ss k).length ck, .int .i64 3, .int .i64 ss[k].parent, .string ss[k].name, .int .i64 ss[k].arg, .slice ac0 ss[k].cond.length cc0, .slice ae0 ss[k].expr.length ce0] 86) := ⟨_, rfl⟩
  have hb0 : Below w.heap.size w w0 := by rw [e0]; exact (Below.refl _ w).alloc (Nat.le_refl _) _
  have hx0 : PBlk w0 w.heap.size #[.int .i64 (k : Int), .int .i64 ((path ss (k + 1)).length : Int), .slice ak (kidsL ss k).length ck, .int .i64 3, .int .i64 ss[k].parent, .string ss[k].name, .int .i64 ss[k].arg, .slice ac0 ss[k].cond.length cc0, .slice ae0 ss[k].expr.length ce0] := by rw [e0]; exact Ch.new_blk _ _
  have d0 := hx0.cell 0
  have d1 := hx0.cell 1
  have d2 := hx0.cell 2
  have d3 := hx0.cell 3
  have d4 := hx0.cell 4
  have d5 := hx0.cell 5
  have d6 := hx0.cell 6
  have d7 := hx0.cell 7
  have d8 := hx0.cell 8
  simp only [List.getElem?_toArray, List.getElem?_cons_succ, List.getElem?_cons_zero] at d0 d1 d2 d3 d4 d5 d6 d7 d8
  have hK0 := h.below hb0
  have HK0 := hid hK0
  have HR0 : Hid (Rides R w w0) := hid (Rides.of_below hb0)
  have HOK := hid hok
  have HE := hid hE
  have hlt0 : w.heap.size < w0.heap.size := Ch.blk_lt hx0
  have hRl0 : R < w0.heap.size := by omega
  have HCH := hid (chooseU wg w0 R u ss s k f _ _ _ hp hk hpk hm hok hE hpc hK0)
  rw [hkd] at HCH
  obtain ⟨tgt, et⟩ : ∃ tgt, tgt = beginG (go ss f false) (go ss f true) ss k s := ⟨_, rfl⟩
  rw [← et, hkd]
  rw [bg3 hpk] at et
  have ec : tgt = chosen ss f s (pick ss s.vars (kidsL ss k)) := by rw [et]; cases pick ss s.vars (kidsL ss k) <;> rfl
  clear et
  have et := ec
  clear ec
  have ET := hid et
  clear et
  clear h hok hE hO hpc hb0 hx0 hp hm hpk hkd hmany
  clear hK0
  rw [e0] at HCH HR0
  go_enter Tryz.func74, Tryz.ntmps74
  go_wp2_with (go_at_call 105; refine HCH.out.mono ?_; rintro e w7 hT; obtain rfl := hT.1; have HU := hid hT; clear hT)
  go_end0
  exact UPost.of' HU.out HR0.out ET.out
set_option maxRecDepth 100000 in
set_option maxHeartbeats 16000000 in
theorem begin7 (wg w : World) (R : Nat) (u : Value) (ss : List StepD) (s : CS) (k f : Nat) (kv vc ve : Value) (hp : pFault ss = 0) (hE : EnterU wg R u ss f) (hO : OverU wg R u ss f) (hk : k < ss.length) (hkd : ss[k].kind = 7) (hm : mE ss k ≤ f + 1) (hok : Ok s) (hpc : PCells wg ss k hk kv vc ve) (h : KAt wg w R u ss s) :
    Calls Tryz.prog 74 #[.pointer (some ⟨R, 0, none⟩), .agg #[.int .i64 (k : Int), .int .i64 ((path ss (k + 1)).length : Int), kv, .int .i64 ss[k].kind, .int .i64 ss[k].parent, .string ss[k].name, .int .i64 ss[k].arg, vc, ve]] w (UPost wg R u ss (beginG (go ss f false) (go ss f true) ss k s) w) := by
  have hl : ss.length ≤ 24 := by have := (of_p hp).1; omega
  have hpk : (PJ ss k).kind = 7 := by rw [PJ_eq hk]; exact hkd
  have hmany := many_of hp hk
  rw [hpk] at hmany
  obtain ⟨ak, ck, rfl⟩ := hpc.kids.slice
  obtain ⟨ac0, cc0, rfl⟩ := hpc.cond.slice
  obtain ⟨ae0, ce0, rfl⟩ := hpc.expr.slice
  have hRl := h.lt
  obtain ⟨w0, e0⟩ : ∃ w0, w0 = w.alloc (.cells #[.int .i64 (k : Int), .int .i64 ((path ss (k + 1)).length : Int), .slice ak (kidsL ss k).length ck, .int .i64 7, .int .i64 ss[k].parent, .string ss[k].name, .int .i64 ss[k].arg, .slice ac0 ss[k].cond.length cc0, .slice ae0 ss[k].expr.length ce0] 86) := ⟨_, rfl⟩
  have hb0 : Below w.heap.size w w0 := by rw [e0]; exact (Below.refl _ w).alloc (Nat.le_refl _) _
  have hx0 : PBlk w0 w.heap.size #[.int .i64 (k : Int), .int .i64 ((path ss (k + 1)).length : Int), .slice ak (kidsL ss k).length ck, .int .i64 7, .int .i64 ss[k].parent, .string ss[k].name, .int .i64 ss[k].arg, .slice ac0 ss[k].cond.length cc0, .slice ae0 ss[k].expr.length ce0] := by rw [e0]; exact Ch.new_blk _ _
  have d0 := hx0.cell 0
  have d1 := hx0.cell 1
  have d2 := hx0.cell 2
  have d3 := hx0.cell 3
  have d4 := hx0.cell 4
  have d5 := hx0.cell 5
  have d6 := hx0.cell 6
  have d7 := hx0.cell 7
  have d8 := hx0.cell 8
  simp only [List.getElem?_toArray, List.getElem?_cons_succ, List.getElem?_cons_zero] at d0 d1 d2 d3 d4 d5 d6 d7 d8
  have hK0 := h.below hb0
  have HK0 := hid hK0
  have HR0 : Hid (Rides R w w0) := hid (Rides.of_below hb0)
  have HOK := hid hok
  have HE := hid hE
  have hlt0 : w.heap.size < w0.heap.size := Ch.blk_lt hx0
  have hRl0 : R < w0.heap.size := by omega
  have HCH := hid (setU wg w0 R u ss s k f _ _ _ hp hk hpk (by have := Kc.m_over hp hk; omega) hok hO hpc hK0)
  rw [hkd] at HCH
  obtain ⟨tgt, et⟩ : ∃ tgt, tgt = beginG (go ss f false) (go ss f true) ss k s := ⟨_, rfl⟩
  rw [← et, hkd]
  rw [bg7 hpk] at et
  have ET := hid et
  clear et
  clear h hok hE hO hpc hb0 hx0 hp hm hpk hkd hmany
  clear hK0
  rw [e0] at HCH HR0
  go_enter Tryz.func74, Tryz.ntmps74
  go_wp2_with (go_at_call 106; refine HCH.out.mono ?_; rintro e w7 hT; obtain rfl := hT.1; have HU := hid hT; clear hT)
  go_end0
  exact UPost.of' HU.out HR0.out ET.out
set_option maxRecDepth 100000 in
set_option maxHeartbeats 16000000 in
theorem begin2 (wg w : World) (R : Nat) (u : Value) (ss : List StepD) (s : CS) (k f : Nat) (kv vc ve : Value) (hp : pFault ss = 0) (hE : EnterU wg R u ss f) (hO : OverU wg R u ss f) (hk : k < ss.length) (hkd : ss[k].kind = 2) (hm : mE ss k ≤ f + 1) (hok : Ok s) (hpc : PCells wg ss k hk kv vc ve) (h : KAt wg w R u ss s) :
    Calls Tryz.prog 74 #[.pointer (some ⟨R, 0, none⟩), .agg #[.int .i64 (k : Int), .int .i64 ((path ss (k + 1)).length : Int), kv, .int .i64 ss[k].kind, .int .i64 ss[k].parent, .string ss[k].name, .int .i64 ss[k].arg, vc, ve]] w (UPost wg R u ss (beginG (go ss f false) (go ss f true) ss k s) w) := by
  have hl : ss.length ≤ 24 := by have := (of_p hp).1; omega
  have hpk : (PJ ss k).kind = 2 := by rw [PJ_eq hk]; exact hkd
  have hmany := many_of hp hk
  rw [hpk] at hmany
  obtain ⟨ak, ck, rfl⟩ := hpc.kids.slice
  obtain ⟨ac0, cc0, rfl⟩ := hpc.cond.slice
  obtain ⟨ae0, ce0, rfl⟩ := hpc.expr.slice
  have hRl := h.lt
  obtain ⟨w0, e0⟩ : ∃ w0, w0 = w.alloc (.cells #[.int .i64 (k : Int), .int .i64 ((path ss (k + 1)).length : Int), .slice ak (kidsL ss k).length ck, .int .i64 2, .int .i64 ss[k].parent, .string ss[k].name, .int .i64 ss[k].arg, .slice ac0 ss[k].cond.length cc0, .slice ae0 ss[k].expr.length ce0] 86) := ⟨_, rfl⟩
  have hb0 : Below w.heap.size w w0 := by rw [e0]; exact (Below.refl _ w).alloc (Nat.le_refl _) _
  have hx0 : PBlk w0 w.heap.size #[.int .i64 (k : Int), .int .i64 ((path ss (k + 1)).length : Int), .slice ak (kidsL ss k).length ck, .int .i64 2, .int .i64 ss[k].parent, .string ss[k].name, .int .i64 ss[k].arg, .slice ac0 ss[k].cond.length cc0, .slice ae0 ss[k].expr.length ce0] := by rw [e0]; exact Ch.new_blk _ _
  have d0 := hx0.cell 0
  have d1 := hx0.cell 1
  have d2 := hx0.cell 2
  have d3 := hx0.cell 3
  have d4 := hx0.cell 4
  have d5 := hx0.cell 5
  have d6 := hx0.cell 6
  have d7 := hx0.cell 7
  have d8 := hx0.cell 8
  simp only [List.getElem?_toArray, List.getElem?_cons_succ, List.getElem?_cons_zero] at d0 d1 d2 d3 d4 d5 d6 d7 d8
  have hK0 := h.below hb0
  have HK0 := hid hK0
  have HR0 : Hid (Rides R w w0) := hid (Rides.of_below hb0)
  have HOK := hid hok
  have HE := hid hE
  have hlt0 : w.heap.size < w0.heap.size := Ch.blk_lt hx0
  have hRl0 : R < w0.heap.size := by omega
  obtain ⟨tgt, et⟩ : ∃ tgt, tgt = beginG (go ss f false) (go ss f true) ss k s := ⟨_, rfl⟩
  rw [← et, hkd]
  rw [bg0 (.inl hpk)] at et
  have ET := hid et
  clear et
  clear h hok hE hO hpc hb0 hx0 hp hm hpk hkd hmany
  clear hK0
  go_enter Tryz.func74, Tryz.ntmps74
  go_wp2
  go_end0
  rw [← e0]
  exact ⟨rfl, by rw [ET.out]; exact HK0.out, HR0.out⟩
set_option maxRecDepth 100000 in
set_option maxHeartbeats 16000000 in
theorem begin5 (wg w : World) (R : Nat) (u : Value) (ss : List StepD) (s : CS) (k f : Nat) (kv vc ve : Value) (hp : pFault ss = 0) (hE : EnterU wg R u ss f) (hO : OverU wg R u ss f) (hk : k < ss.length) (hkd : ss[k].kind = 5) (hm : mE ss k ≤ f + 1) (hok : Ok s) (hpc : PCells wg ss k hk kv vc ve) (h : KAt wg w R u ss s) :
    Calls Tryz.prog 74 #[.pointer (some ⟨R, 0, none⟩), .agg #[.int .i64 (k : Int), .int .i64 ((path ss (k + 1)).length : Int), kv, .int .i64 ss[k].kind, .int .i64 ss[k].parent, .string ss[k].name, .int .i64 ss[k].arg, vc, ve]] w (UPost wg R u ss (beginG (go ss f false) (go ss f true) ss k s) w) := by
  have hl : ss.length ≤ 24 := by have := (of_p hp).1; omega
  have hpk : (PJ ss k).kind = 5 := by rw [PJ_eq hk]; exact hkd
  have hmany := many_of hp hk
  rw [hpk] at hmany
  obtain ⟨ak, ck, rfl⟩ := hpc.kids.slice
  obtain ⟨ac0, cc0, rfl⟩ := hpc.cond.slice
  obtain ⟨ae0, ce0, rfl⟩ := hpc.expr.slice
  have hRl := h.lt
  obtain ⟨w0, e0⟩ : ∃ w0, w0 = w.alloc (.cells #[.int .i64 (k : Int), .int .i64 ((path ss (k + 1)).length : Int), .slice ak (kidsL ss k).length ck, .int .i64 5, .int .i64 ss[k].parent, .string ss[k].name, .int .i64 ss[k].arg, .slice ac0 ss[k].cond.length cc0, .slice ae0 ss[k].expr.length ce0] 86) := ⟨_, rfl⟩
  have hb0 : Below w.heap.size w w0 := by rw [e0]; exact (Below.refl _ w).alloc (Nat.le_refl _) _
  have hx0 : PBlk w0 w.heap.size #[.int .i64 (k : Int), .int .i64 ((path ss (k + 1)).length : Int), .slice ak (kidsL ss k).length ck, .int .i64 5, .int .i64 ss[k].parent, .string ss[k].name, .int .i64 ss[k].arg, .slice ac0 ss[k].cond.length cc0, .slice ae0 ss[k].expr.length ce0] := by rw [e0]; exact Ch.new_blk _ _
  have d0 := hx0.cell 0
  have d1 := hx0.cell 1
  have d2 := hx0.cell 2
  have d3 := hx0.cell 3
  have d4 := hx0.cell 4
  have d5 := hx0.cell 5
  have d6 := hx0.cell 6
  have d7 := hx0.cell 7
  have d8 := hx0.cell 8
  simp only [List.getElem?_toArray, List.getElem?_cons_succ, List.getElem?_cons_zero] at d0 d1 d2 d3 d4 d5 d6 d7 d8
  have hK0 := h.below hb0
  have HK0 := hid hK0
  have HR0 : Hid (Rides R w w0) := hid (Rides.of_below hb0)
  have HOK := hid hok
  have HE := hid hE
  have hlt0 : w.heap.size < w0.heap.size := Ch.blk_lt hx0
  have hRl0 : R < w0.heap.size := by omega
  obtain ⟨tgt, et⟩ : ∃ tgt, tgt = beginG (go ss f false) (go ss f true) ss k s := ⟨_, rfl⟩
  rw [← et, hkd]
  rw [bg0 (.inr hpk)] at et
  have ET := hid et
  clear et
  clear h hok hE hO hpc hb0 hx0 hp hm hpk hkd hmany
  clear hK0
  go_enter Tryz.func74, Tryz.ntmps74
  go_wp2
  go_end0
  rw [← e0]
  exact ⟨rfl, by rw [ET.out]; exact HK0.out, HR0.out⟩
set_option maxRecDepth 100000 in
set_option maxHeartbeats 16000000 in
theorem begin6 (wg w : World) (R : Nat) (u : Value) (ss : List StepD) (s : CS) (k f : Nat) (kv vc ve : Value) (hp : pFault ss = 0) (hE : EnterU wg R u ss f) (hO : OverU wg R u ss f) (hk : k < ss.length) (hkd : ss[k].kind = 6) (hm : mE ss k ≤ f + 1) (hok : Ok s) (hpc : PCells wg ss k hk kv vc ve) (h : KAt wg w R u ss s) :
    Calls Tryz.prog 74 #[.pointer (some ⟨R, 0, none⟩), .agg #[.int .i64 (k : Int), .int .i64 ((path ss (k + 1)).length : Int), kv, .int .i64 ss[k].kind, .int .i64 ss[k].parent, .string ss[k].name, .int .i64 ss[k].arg, vc, ve]] w (UPost wg R u ss (beginG (go ss f false) (go ss f true) ss k s) w) := by
  have hl : ss.length ≤ 24 := by have := (of_p hp).1; omega
  have hpk : (PJ ss k).kind = 6 := by rw [PJ_eq hk]; exact hkd
  have hmany := many_of hp hk
  rw [hpk] at hmany
  obtain ⟨ak, ck, rfl⟩ := hpc.kids.slice
  obtain ⟨ac0, cc0, rfl⟩ := hpc.cond.slice
  obtain ⟨ae0, ce0, rfl⟩ := hpc.expr.slice
  have hRl := h.lt
  obtain ⟨w0, e0⟩ : ∃ w0, w0 = w.alloc (.cells #[.int .i64 (k : Int), .int .i64 ((path ss (k + 1)).length : Int), .slice ak (kidsL ss k).length ck, .int .i64 6, .int .i64 ss[k].parent, .string ss[k].name, .int .i64 ss[k].arg, .slice ac0 ss[k].cond.length cc0, .slice ae0 ss[k].expr.length ce0] 86) := ⟨_, rfl⟩
  have hb0 : Below w.heap.size w w0 := by rw [e0]; exact (Below.refl _ w).alloc (Nat.le_refl _) _
  have hx0 : PBlk w0 w.heap.size #[.int .i64 (k : Int), .int .i64 ((path ss (k + 1)).length : Int), .slice ak (kidsL ss k).length ck, .int .i64 6, .int .i64 ss[k].parent, .string ss[k].name, .int .i64 ss[k].arg, .slice ac0 ss[k].cond.length cc0, .slice ae0 ss[k].expr.length ce0] := by rw [e0]; exact Ch.new_blk _ _
  have d0 := hx0.cell 0
  have d1 := hx0.cell 1
  have d2 := hx0.cell 2
  have d3 := hx0.cell 3
  have d4 := hx0.cell 4
  have d5 := hx0.cell 5
  have d6 := hx0.cell 6
  have d7 := hx0.cell 7
  have d8 := hx0.cell 8
  simp only [List.getElem?_toArray, List.getElem?_cons_succ, List.getElem?_cons_zero] at d0 d1 d2 d3 d4 d5 d6 d7 d8
  have hK0 := h.below hb0
  have HK0 := hid hK0
  have HR0 : Hid (Rides R w w0) := hid (Rides.of_below hb0)
  have HOK := hid hok
  have HE := hid hE
  have hlt0 : w.heap.size < w0.heap.size := Ch.blk_lt hx0
  have hRl0 : R < w0.heap.size := by omega
  have harg := Kt.arg_in hp hk (.inl hpk)
  rw [PJ_eq hk] at harg
  have hn8 := hok.lo
  have hn9 := hok.hi
  have t2 := hK0.c2
  have mD := hK0.cD (i := k) (by omega)
  have fD := hK0.free (31 + k)
  obtain ⟨w5, e5⟩ : ∃ w5, w5 = (w0.setCell ⟨R, 31 + k, none⟩ (.int .i64 (s.now + ss[k].arg))).drew := ⟨_, rfl⟩
  have hK5 := (KAt.due hK0 hk hl (s.now + ss[k].arg)).below (Below.refl _ _).drew
  rw [← e5] at hK5
  have HR5 : Hid (Rides R w0 w5) := hid (by rw [e5]; exact (Rides.set R _ _ _).trans (Rides.of_below (Below.refl _ _).drew))
  have HK5 := hid hK5
  have E5 := hid e5
  have HRT := hid (HR0.out.trans HR5.out)
  have hz5 : w0.heap.size ≤ w5.heap.size := HR5.out.size
  have q8 : (k : Int) < 24 := by omega
  have q9 : (0 : Int) ≤ (k : Int) := by omega
  clear e5
  obtain ⟨tgt, et⟩ : ∃ tgt, tgt = beginG (go ss f false) (go ss f true) ss k s := ⟨_, rfl⟩
  rw [← et, hkd]
  rw [bg6 hpk] at et
  rw [PJ_eq hk] at et
  have ET := hid et
  clear et
  clear h hok hE hO hpc hb0 hx0 hp hm hpk hkd hmany
  clear hK0 hK5
  go_enter Tryz.func74, Tryz.ntmps74
  go_wp2
  rw [← e0]
  clear e0
  go_wp2
  go_region
  rw [← E5.out]
  go_wp2
  go_end0
  exact ⟨rfl, by rw [ET.out]; exact HK5.out, HRT.out⟩
set_option maxRecDepth 100000 in
set_option maxHeartbeats 16000000 in
theorem begin8 (wg w : World) (R : Nat) (u : Value) (ss : List StepD) (s : CS) (k f : Nat) (kv vc ve : Value) (hp : pFault ss = 0) (hE : EnterU wg R u ss f) (hO : OverU wg R u ss f) (hk : k < ss.length) (hkd : ss[k].kind = 8) (hm : mE ss k ≤ f + 1) (hok : Ok s) (hpc : PCells wg ss k hk kv vc ve) (h : KAt wg w R u ss s) :
    Calls Tryz.prog 74 #[.pointer (some ⟨R, 0, none⟩), .agg #[.int .i64 (k : Int), .int .i64 ((path ss (k + 1)).length : Int), kv, .int .i64 ss[k].kind, .int .i64 ss[k].parent, .string ss[k].name, .int .i64 ss[k].arg, vc, ve]] w (UPost wg R u ss (beginG (go ss f false) (go ss f true) ss k s) w) := by
  have hl : ss.length ≤ 24 := by have := (of_p hp).1; omega
  have hpk : (PJ ss k).kind = 8 := by rw [PJ_eq hk]; exact hkd
  have hmany := many_of hp hk
  rw [hpk] at hmany
  have hn1 : 0 < (kidsL ss k).length := by have h8 := hmany; simp [manyOk] at h8; omega
  have HKM : Hid (∀ x ∈ kidsL ss k, x < ss.length ∧ mE ss x ≤ f) := hid (fun x hx => ⟨(kid_mem.1 hx).1, by have := Kc.m_kid hp hx; omega⟩)
  obtain ⟨bk, ck, rfl, hbk, _, _, hcell⟩ := Kc.kids_at hpc.kids hn1
  obtain ⟨ac0, cc0, rfl⟩ := hpc.cond.slice
  obtain ⟨ae0, ce0, rfl⟩ := hpc.expr.slice
  have hRl := h.lt
  obtain ⟨w0, e0⟩ : ∃ w0, w0 = w.alloc (.cells #[.int .i64 (k : Int), .int .i64 ((path ss (k + 1)).length : Int), .slice (some ⟨bk, 0, none⟩) (kidsL ss k).length ck, .int .i64 8, .int .i64 ss[k].parent, .string ss[k].name, .int .i64 ss[k].arg, .slice ac0 ss[k].cond.length cc0, .slice ae0 ss[k].expr.length ce0] 86) := ⟨_, rfl⟩
  have hb0 : Below w.heap.size w w0 := by rw [e0]; exact (Below.refl _ w).alloc (Nat.le_refl _) _
  have hx0 : PBlk w0 w.heap.size #[.int .i64 (k : Int), .int .i64 ((path ss (k + 1)).length : Int), .slice (some ⟨bk, 0, none⟩) (kidsL ss k).length ck, .int .i64 8, .int .i64 ss[k].parent, .string ss[k].name, .int .i64 ss[k].arg, .slice ac0 ss[k].cond.length cc0, .slice ae0 ss[k].expr.length ce0] := by rw [e0]; exact Ch.new_blk _ _
  have d0 := hx0.cell 0
  have d1 := hx0.cell 1
  have d2 := hx0.cell 2
  have d3 := hx0.cell 3
  have d4 := hx0.cell 4
  have d5 := hx0.cell 5
  have d6 := hx0.cell 6
  have d7 := hx0.cell 7
  have d8 := hx0.cell 8
  simp only [List.getElem?_toArray, List.getElem?_cons_succ, List.getElem?_cons_zero] at d0 d1 d2 d3 d4 d5 d6 d7 d8
  have hK0 := h.below hb0
  have HK0 := hid hK0
  have HR0 : Hid (Rides R w w0) := hid (Rides.of_below hb0)
  have HOK := hid hok
  have HE := hid hE
  have hlt0 : w.heap.size < w0.heap.size := Ch.blk_lt hx0
  have hRl0 : R < w0.heap.size := by omega
  have hxk : kid ss k 0 = (kidsL ss k)[0] := by unfold kid; rw [List.getD_eq_getElem?_getD, List.getElem?_eq_getElem hn1]; rfl
  have hxm := HKM.out _ (List.getElem_mem hn1)
  have c0 := ((hK0.bel).cell (p := ⟨bk, 0, none⟩) hbk).trans (hcell 0 hn1)
  have hbk0 : bk < w0.heap.size := Nat.lt_of_lt_of_le hbk hK0.bel.size
  have harg := Kt.arg_in hp hk (.inr hpk)
  rw [PJ_eq hk] at harg
  have hn8 := hok.lo
  have hn9 := hok.hi
  have t2 := hK0.c2
  have mD := hK0.cD (i := k) (by omega)
  have fD := hK0.free (31 + k)
  obtain ⟨w5, e5⟩ : ∃ w5, w5 = (w0.setCell ⟨R, 31 + k, none⟩ (.int .i64 (s.now + ss[k].arg))).drew := ⟨_, rfl⟩
  have hK5 := (KAt.due hK0 hk hl (s.now + ss[k].arg)).below (Below.refl _ _).drew
  rw [← e5] at hK5
  have HR5 : Hid (Rides R w0 w5) := hid (by rw [e5]; exact (Rides.set R _ _ _).trans (Rides.of_below (Below.refl _ _).drew))
  have HK5 := hid hK5
  have E5 := hid e5
  have HRT := hid (HR0.out.trans HR5.out)
  have hz5 : w0.heap.size ≤ w5.heap.size := HR5.out.size
  have q8 : (k : Int) < 24 := by omega
  have q9 : (0 : Int) ≤ (k : Int) := by omega
  clear e5
  have c05 := (hK5.bel.cell (p := ⟨bk, 0, none⟩) hbk).trans (hcell 0 hn1)
  have d25 := (rides_cell HR5.out (b := w.heap.size) (o := 2) hlt0 (by omega)).trans d2
  obtain ⟨tgt, et⟩ : ∃ tgt, tgt = beginG (go ss f false) (go ss f true) ss k s := ⟨_, rfl⟩
  rw [← et, hkd]
  rw [bg8 hpk] at et
  rw [hxk, PJ_eq hk] at et
  have ET := hid et
  clear et
  clear h hok hE hO hpc hb0 hx0 hp hm hpk hkd hmany
  clear hxk hcell HKM hK0 hK5
  generalize (kidsL ss k)[0] = x at *
  have hx := hxm.1
  have HMX := hid hxm.2
  clear hxm
  have q1 : (0 : Int) < ((kidsL ss k).length : Int) := by omega
  generalize (kidsL ss k).length = nk at *
  have HEN := hid (entering wg w5 R u ss _ x hl hx HK5.out)
  go_enter Tryz.func74, Tryz.ntmps74
  go_wp2
  rw [← e0]
  clear e0
  go_wp2
  go_region
  rw [← E5.out]
  go_wp2_with (go_at_call 40; refine HEN.out.mono ?_; rintro e w6 ⟨⟨b1, b2, b3, rfl, hcl⟩, hb6⟩)
  have HE6 := hid (HE.out x _ w6 b1 b2 b3 hx HMX.out (HOK.out.due k (s.now + ss[k].arg)) (HK5.out.below hb6) hcl)
  have HR6 := hid (HRT.out.trans (Rides.of_below hb6))
  clear hcl hb6
  go_wp2_with (go_at_call 73; refine HE6.out.mono ?_; rintro e w7 hT; obtain rfl := hT.1; have HU := hid hT; clear hT)
  go_end0
  exact UPost.of' HU.out HR6.out ET.out
set_option maxRecDepth 100000 in
set_option maxHeartbeats 16000000 in
theorem begin4 (wg w : World) (R : Nat) (u : Value) (ss : List StepD) (s : CS) (k f : Nat) (kv vc ve : Value) (hp : pFault ss = 0) (hE : EnterU wg R u ss f) (hO : OverU wg R u ss f) (hk : k < ss.length) (hkd : ss[k].kind = 4) (hm : mE ss k ≤ f + 1) (hok : Ok s) (hpc : PCells wg ss k hk kv vc ve) (h : KAt wg w R u ss s) :
    Calls Tryz.prog 74 #[.pointer (some ⟨R, 0, none⟩), .agg #[.int .i64 (k : Int), .int .i64 ((path ss (k + 1)).length : Int), kv, .int .i64 ss[k].kind, .int .i64 ss[k].parent, .string ss[k].name, .int .i64 ss[k].arg, vc, ve]] w (UPost wg R u ss (beginG (go ss f false) (go ss f true) ss k s) w) := by
  have hl : ss.length ≤ 24 := by have := (of_p hp).1; omega
  have hpk : (PJ ss k).kind = 4 := by rw [PJ_eq hk]; exact hkd
  have hmany := many_of hp hk
  rw [hpk] at hmany
  have hn1 : 0 < (kidsL ss k).length := by have h8 := hmany; simp [manyOk] at h8; omega
  have HKM : Hid (∀ x ∈ kidsL ss k, x < ss.length ∧ mE ss x ≤ f) := hid (fun x hx => ⟨(kid_mem.1 hx).1, by have := Kc.m_kid hp hx; omega⟩)
  obtain ⟨bk, ck, rfl, hbk, _, _, hcell⟩ := Kc.kids_at hpc.kids hn1
  obtain ⟨ac0, cc0, rfl⟩ := hpc.cond.slice
  obtain ⟨ae0, ce0, rfl⟩ := hpc.expr.slice
  have hRl := h.lt
  obtain ⟨w0, e0⟩ : ∃ w0, w0 = w.alloc (.cells #[.int .i64 (k : Int), .int .i64 ((path ss (k + 1)).length : Int), .slice (some ⟨bk, 0, none⟩) (kidsL ss k).length ck, .int .i64 4, .int .i64 ss[k].parent, .string ss[k].name, .int .i64 ss[k].arg, .slice ac0 ss[k].cond.length cc0, .slice ae0 ss[k].expr.length ce0] 86) := ⟨_, rfl⟩
  have hb0 : Below w.heap.size w w0 := by rw [e0]; exact (Below.refl _ w).alloc (Nat.le_refl _) _
  have hx0 : PBlk w0 w.heap.size #[.int .i64 (k : Int), .int .i64 ((path ss (k + 1)).length : Int), .slice (some ⟨bk, 0, none⟩) (kidsL ss k).length ck, .int .i64 4, .int .i64 ss[k].parent, .string ss[k].name, .int .i64 ss[k].arg, .slice ac0 ss[k].cond.length cc0, .slice ae0 ss[k].expr.length ce0] := by rw [e0]; exact Ch.new_blk _ _
  have d0 := hx0.cell 0
  have d1 := hx0.cell 1
  have d2 := hx0.cell 2
  have d3 := hx0.cell 3
  have d4 := hx0.cell 4
  have d5 := hx0.cell 5
  have d6 := hx0.cell 6
  have d7 := hx0.cell 7
  have d8 := hx0.cell 8
  simp only [List.getElem?_toArray, List.getElem?_cons_succ, List.getElem?_cons_zero] at d0 d1 d2 d3 d4 d5 d6 d7 d8
  have hK0 := h.below hb0
  have HK0 := hid hK0
  have HR0 : Hid (Rides R w w0) := hid (Rides.of_below hb0)
  have HOK := hid hok
  have HE := hid hE
  have hlt0 : w.heap.size < w0.heap.size := Ch.blk_lt hx0
  have hRl0 : R < w0.heap.size := by omega
  obtain ⟨tgt, et⟩ : ∃ tgt, tgt = beginG (go ss f false) (go ss f true) ss k s := ⟨_, rfl⟩
  rw [← et, hkd]
  rw [bg4 hpk] at et
  have ET := hid et
  clear et
  have hk24 : (kidsL ss k).length ≤ 24 := by have := kidsN_le ss ss.length k; unfold kidsL; omega
  have HCL : Hid (∀ i (hi : i < (kidsL ss k).length), wg.cell? ⟨bk, i, none⟩ = some (.int .i64 ((kidsL ss k)[i] : Int))) := hid hcell
  clear h hok hE hO hpc hb0 hx0 hp hm hpk hkd hmany
  clear hcell hK0
  generalize kidsL ss k = ks at *
  go_enter Tryz.func74, Tryz.ntmps74
  go_wp2
  rw [← e0]
  clear e0
  go_wp2
  go_loopw [5, 30] (fun _ y wr => ∃ i : Nat, y = .int .i64 i ∧ i ≤ ks.length ∧ Hid (KAt wg wr R u ss ((ks.take i).foldl (fun s j => go ss f false j s) s)) ∧ Hid (Ok ((ks.take i).foldl (fun s j => go ss f false j s) s)) ∧ Hid (Rides R w wr)) (fun _ y _ => ks.length - (intOf y).toNat)
  case atStart => exact ⟨0, rfl, Nat.zero_le _, hid (by simpa using HK0.out), hid (by simpa using HOK.out), HR0⟩
  case round =>
    obtain ⟨i, rfl, hi, HKr, HOr, HRr⟩ := hrel
    by_cases hlt : i < ks.length
    · have c1 := (HKr.out.bel.cell (p := ⟨bk, i, none⟩) hbk).trans (HCL.out i hlt)
      have hbr : bk < wr.heap.size := Nat.lt_of_lt_of_le hbk HKr.out.bel.size
      have hxm := HKM.out _ (List.getElem_mem hlt)
      have HF : Hid ((ks.take (i + 1)).foldl (fun s j => go ss f false j s) s = go ss f false ks[i] ((ks.take i).foldl (fun s j => go ss f false j s) s)) := hid (by rw [List.take_succ_eq_append_getElem hlt, List.foldl_append]; rfl)
      generalize (ks.take i).foldl (fun s j => go ss f false j s) s = sr at *
      generalize ks[i] = x at *
      have hx := hxm.1
      have HMX := hid hxm.2
      clear hxm
      have q1 : (i : Int) < (ks.length : Int) := by omega
      have HEN := hid (entering wg wr R u ss sr x hl hx HKr.out)
      go_wp2_with (go_at_call 40; refine HEN.out.mono ?_; rintro e w6 ⟨⟨b1, b2, b3, rfl, hcl⟩, hb6⟩)
      have HE6 := hid (HE.out x sr w6 b1 b2 b3 hx HMX.out HOr.out (HKr.out.below hb6) hcl)
      have HR6 := hid (HRr.out.trans (Rides.of_below hb6))
      clear hcl hb6
      go_wp2_with (go_at_call 73; refine HE6.out.mono ?_; rintro e w7 hT; obtain rfl := hT.1; have HU := hid hT; clear hT)
      have HG := hid (Kc.go_ok ss f false x sr HOr.out)
      refine ⟨⟨i + 1, by simp, by omega, hid ?_, hid ?_, hid (HR6.out.trans HU.out.2.2)⟩, by simp [intOf]; omega⟩
      · rw [HF.out]; exact HU.out.2.1
      · rw [HF.out]; exact HG.out
    · have hie : ks.take i = ks := List.take_of_length_le (by omega)
      rw [hie] at HKr
      have q1 : ¬ (i : Int) < (ks.length : Int) := by omega
      clear hie
      go_wp2
      go_end0
      exact ⟨rfl, by rw [ET.out]; exact HKr.out, HRr.out⟩
theorem beginU {wg : World} {R : Nat} {u : Value} {ss : List StepD} {f : Nat} (hp : pFault ss = 0) (hE : EnterU wg R u ss f) (hO : OverU wg R u ss f) : BeginU wg R u ss f := by
  intro k s w kv vc ve hk hm hok hpc h
  have hkd := Kc.kind_in hp hk
  rw [PJ_eq hk] at hkd
  rcases Pf.kinds (show inR ss[k].kind 1 8 = true by simp [inR]; omega) with e | e | e | e | e | e | e | e
  · exact begin1 wg w R u ss s k f kv vc ve hp hE hO hk e hm hok hpc h
  · exact begin2 wg w R u ss s k f kv vc ve hp hE hO hk e hm hok hpc h
  · exact begin3 wg w R u ss s k f kv vc ve hp hE hO hk e hm hok hpc h
  · exact begin4 wg w R u ss s k f kv vc ve hp hE hO hk e hm hok hpc h
  · exact begin5 wg w R u ss s k f kv vc ve hp hE hO hk e hm hok hpc h
  · exact begin6 wg w R u ss s k f kv vc ve hp hE hO hk e hm hok hpc h
  · exact begin7 wg w R u ss s k f kv vc ve hp hE hO hk e hm hok hpc h
  · exact begin8 wg w R u ss s k f kv vc ve hp hE hO hk e hm hok hpc h
end Ku
end Go.Proofs.YtpgbjpfpgbjbeaaGreatDoor
