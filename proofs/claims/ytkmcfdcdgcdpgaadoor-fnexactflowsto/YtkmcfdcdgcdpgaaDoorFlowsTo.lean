/- Whatever graph and number are handed in, FlowsTo answers as the specification's FlowsTo does, in code and in places, its list owns its memory, behind another call too, and the graph handed in reads afterwards as before. Condition, tied to the program's own text: the table of rules of nodes holds what its initialiser lays. -/
import Derived.Test.YtkmcfdcdgcdpgaaDoorCard6
import Derived.Test.YtkmcfdcdgcdpgaaDoorGrT
import Derived.Test.YtkmcfdcdgcdpgaaDoorGiD
import Derived.Deep.RegionHeld3
import Derived.Test.YtkmcfdcdgcdpgaaDoorIntsX
namespace Go.Proofs.YtkmcfdcdgcdpgaaDoor
open Go.ChangeShapes Go.WideShapes Go.ChangeAt Go.RowKit
open Go.ChangeMaps (open_string shut_string)
set_option linter.unusedVariables false
namespace FtL
open Ex (hid)
open Rc Gr
open Ints (vals IntsAt marksTo)
def own (v : Value) (b : Nat) : Prop := v.ownBlock = some b
theorem amid_cell {w w' : World} {B C b o : Nat} {v : Value} (h : Amid w w' B C) (hb : b < B ∨ C ≤ b) (hc : w.cell? ⟨b, o, none⟩ = some v) : w'.cell? ⟨b, o, none⟩ = some v := by
  have hl : b < w.heap.size := by
    rcases Nat.lt_or_ge b w.heap.size with h1 | h1
    · exact h1
    · simp [World.cell?, Array.getElem?_eq_none h1] at hc
  simp only [World.cell?] at hc ⊢
  rw [h.block b hl hb]
  exact hc
theorem amid_own {w w' : World} {B C B0 n : Nat} {v : Value} {xs : List Value} (h : Amid w w' B C) (ho : w.ownsRow B0 2 1 v n xs) (hb : ∀ b, own v b → b < B ∨ C ≤ b) : w'.ownsRow B0 2 1 v n xs := by
  refine ⟨ho.1, ?_⟩
  rcases ho.2 with hn | ⟨g, cap, cur, rfl, hbg, hg, rest⟩
  · exact .inl hn
  · exact .inr ⟨g, cap, cur, rfl, hbg, by rw [h.block g (Array.getElem?_eq_some_iff.1 hg).1 (hb g rfl)]; exact hg, rest⟩
theorem kept_cell {w w' : World} {B b o : Nat} {v : Value} (h : Below B w w') (hb : b < B) (hc : w.cell? ⟨b, o, none⟩ = some v) : w'.cell? ⟨b, o, none⟩ = some v := (h.cell (p := ⟨b, o, none⟩) hb).trans hc
theorem grown_cell {w w' : World} {row : Option Nat} {b o : Nat} {v : Value} (h : w.grownBy w' row) (hc : w.cell? ⟨b, o, none⟩ = some v) (hr : row ≠ some b) : w'.cell? ⟨b, o, none⟩ = some v := by
  have hl : b < w.heap.size := by
    rcases Nat.lt_or_ge b w.heap.size with h1 | h1
    · exact h1
    · simp [World.cell?, Array.getElem?_eq_none h1] at hc
  simp only [World.cell?] at hc ⊢
  rw [h.block b hl (fun e => hr e.symm)]
  exact hc
set_option maxRecDepth 100000 in
set_option maxHeartbeats 8000000 in
theorem walk (g : GraphD) (n1 f1 : Value) (node : Int) (w : World) (kg : Ok g) (h1 : At w 0 n1 f1 g) (hr : NRul w) :
    Calls Tryd.prog 5 #[.agg #[n1, f1], .int .i64 node] w fun e w' => e = .returned (.bool true) ∧ Below w.heap.size w w' := by
  have hgl := hr.lt
  have HZ1 := hid (fun w' (hb : Below w.heap.size w w') => sz 0 g n1 f1 1048576 w' (by omega) (by omega) kg (h1.below hb))
  obtain ⟨a1, c1, rfl⟩ := h1.nodes.slice
  obtain ⟨a2, c2, rfl⟩ := h1.flows.slice
  have H1 := hid h1
  have HR := hid hr
  have HB0 : Hid (Below w.heap.size w (w.alloc (.cells #[.slice a1 g.nodes.length c1, .slice a2 g.flows.length c2] 25))) := hid ((Below.refl _ w).alloc (Nat.le_refl _) _)
  have HT0 : Hid (One (w.alloc (.cells #[.slice a1 g.nodes.length c1, .slice a2 g.flows.length c2] 25)) w.heap.size (.slice a1 g.nodes.length c1) (.slice a2 g.flows.length c2)) := hid ⟨by go_simp, by go_simp, by simp⟩
  clear h1 kg hr
  go_enter Tryd.func5, Tryd.ntmps5
  go_wp2_with fail
  generalize w.alloc (.cells #[.slice a1 g.nodes.length c1, .slice a2 g.flows.length c2] 25) = w0 at *
  refine (HZ1.out _ HB0.out).mono ?_
  rintro e w1 ⟨⟨r1, rfl, r1a, r1b, r1c⟩, hb1⟩
  have HB1 := hid (HB0.out.trans (hb1.mono HB0.out.size))
  by_cases q1 : r1 < 0
  · clear hb1
    go_wp2
    go_ret
    exact ⟨rfl, HB1.out⟩
  have S1 := hid (r1c (by omega))
  have HT1 := hid (HT0.out.below hb1)
  obtain ⟨k0, k1, lp⟩ := HT1.out
  clear r1c HZ1 hb1 HB0 HT0
  have HC1 := hid (fun w' (hb : Below w.heap.size w w') => to1 0 g _ _ w' S1.out (H1.out.below hb))
  have HC2 := hid (fun w' (hb : Below w.heap.size w w') => to2 0 g _ _ w' S1.out (H1.out.below hb))
  clear H1
  go_wp2_with fail
  refine (HC1.out _ HB1.out).mono ?_
  rintro e w2 ⟨un, uf, rfl, hu, hb2⟩
  obtain ⟨x1, y1, rfl⟩ := hu.nodes.slice
  obtain ⟨x2, y2, rfl⟩ := hu.flows.slice
  have HB2 := hid (HB1.out.trans (hb2.mono HB1.out.size))
  have HT2 := hid (HT1.out.below hb2)
  have HU := hid hu
  clear hu hb2 k0 k1 lp HT1 HB1
  have hln := S1.out.flows.1
  have hkl := toL_le g node
  go_wp2_with fail
  refine (specFlowsTo _ g _ _ node _ S1.out HU.out).mono ?_
  rintro e w3 ⟨⟨s0, rfl, ho0⟩, hb3⟩
  have HB3 := hid (HB2.out.trans (hb3.mono HB2.out.size))
  have HT3 := hid (HT2.out.below hb3)
  have hs0 : ∀ b, own s0 b → b < w3.heap.size := fun b hb => (row_lt ho0 hb).2
  have I0 := hid (IntsAt.of ho0)
  obtain ⟨y0, z0, rfl⟩ := Ints.owns_slice ho0
  have HIK := hid (fun un uf w' (hb : Below w.heap.size w w') (hu : At w' 0 un uf g) => implFlowsTo 0 g un uf node w' S1.out hu (HR.out.below hb hgl))
  generalize hcc : askC g node = cc at *
  generalize hxx : toL g node = xs at *
  clear ho0 HU hb3 HT2 HB2 HR hcc hxx
  have hxl : xs.length ≤ 1048576 := by omega
  have HXL := hid hxl
  obtain ⟨k0, k1, lp⟩ := HT3.out
  go_wp2_with fail
  have hx4 : Below w3.heap.size w3 (w3.alloc (.cells #[.int .i64 cc, .slice y0 xs.length z0] 37)) := (Below.refl _ w3).alloc (Nat.le_refl _) _
  have HB4 : Hid (Below w.heap.size w (w3.alloc (.cells #[.int .i64 cc, .slice y0 xs.length z0] 37))) := hid (HB3.out.trans (hx4.mono HB3.out.size))
  have HT4 := hid (HT3.out.below hx4)
  have I04 := hid (I0.out.below hx4)
  have p04 : (w3.alloc (.cells #[.int .i64 cc, .slice y0 xs.length z0] 37)).cell? ⟨w3.heap.size, 0, none⟩ = some (.int .i64 cc) := by go_simp
  have p14 : (w3.alloc (.cells #[.int .i64 cc, .slice y0 xs.length z0] 37)).cell? ⟨w3.heap.size, 1, none⟩ = some (.slice y0 xs.length z0) := by go_simp
  have L4 : Hid ((w3.alloc (.cells #[.int .i64 cc, .slice y0 xs.length z0] 37)).heap.size = w3.heap.size + 1) := hid (by simp)
  have LP4 := hid HT4.out.lp
  have W3 := hid HB3.out.size
  clear k0 k1 lp HT3 I0 hx4 HB3
  generalize w3.alloc (.cells #[.int .i64 cc, .slice y0 xs.length z0] 37) = w4 at *
  refine (HC2.out _ HB4.out).mono ?_
  rintro e w5 ⟨un, uf, M, rfl, hu, hw2, hM, hb5⟩
  obtain ⟨x5, y5, rfl⟩ := hu.nodes.slice
  obtain ⟨x6, y6, rfl⟩ := hu.flows.slice
  have HBa : Hid (Below w5.heap.size w5 (w5.alloc (.cells #[.slice x5 g.nodes.length y5, .slice x6 g.flows.length y6] 31))) := hid ((Below.refl _ w5).alloc (Nat.le_refl _) _)
  have HB5 := hid ((HB4.out.trans (hb5.mono HB4.out.size)).trans (HBa.out.mono (HB4.out.trans (hb5.mono HB4.out.size)).size))
  have HT5 := hid (HT4.out.below hb5)
  have HTa : Hid (Two (w5.alloc (.cells #[.slice x5 g.nodes.length y5, .slice x6 g.flows.length y6] 31)) w.heap.size w5.heap.size (.slice a1 g.nodes.length c1) (.slice a2 g.flows.length c2) (.slice x5 g.nodes.length y5) (.slice x6 g.flows.length y6)) := hid ⟨old_cell HBa.out HT5.out.lp HT5.out.c0, old_cell HBa.out HT5.out.lp HT5.out.c1, by go_simp, by go_simp, by have := HT5.out.lp; simp; omega, by simp⟩
  have L5 := hid hb5.size
  have LM := hid hM
  have U5 := hid ((hu.mono (Nat.zero_le _)).below HBa.out)
  have W5 := hid (hw2.below HBa.out)
  have I05 := hid ((I04.out.below hb5).below HBa.out)
  have p05 := old_cell HBa.out (by have := L5.out; have := L4.out; omega) (old_cell hb5 (by have := L4.out; omega) p04)
  have p15 := old_cell HBa.out (by have := L5.out; have := L4.out; omega) (old_cell hb5 (by have := L4.out; omega) p14)
  have L5a : Hid ((w5.alloc (.cells #[.slice x5 g.nodes.length y5, .slice x6 g.flows.length y6] 31)).heap.size = w5.heap.size + 1) := hid (by simp)
  clear hu hw2 hM hb5 HT4 HT5 I04 p04 p14 HB4
  have k2 := HTa.out.d0
  have k3 := HTa.out.d1
  go_wp2_with fail
  generalize w5.alloc (.cells #[.slice x5 g.nodes.length y5, .slice x6 g.flows.length y6] 31) = w5a at *
  refine (HIK.out _ _ _ HB5.out U5.out).mono ?_
  rintro e w6 ⟨⟨g0, rfl, ho6⟩, hb6⟩
  have hg0 : ∀ b, own g0 b → w5a.heap.size + 1 ≤ b ∧ b < w6.heap.size := fun b hb => row_lt ho6 hb
  obtain ⟨y1, z1, rfl⟩ := Ints.owns_slice ho6
  have L6 := hid hb6.size
  have W5S := hid HB5.out.size
  have HB6 := hid (HB5.out.trans (hb6.mono HB5.out.size))
  have HT6 := hid (HTa.out.below hb6)
  have O6 := hid ho6
  have I06 := hid (I05.out.below hb6)
  have U6 := hid (U5.out.below hb6)
  have W6 := hid (W5.out.below hb6)
  have p06 := old_cell hb6 (by have := L5.out; have := L4.out; have := L5a.out; omega) p05
  have p16 := old_cell hb6 (by have := L5.out; have := L4.out; have := L5a.out; omega) p15
  have HBb : Hid (Below w6.heap.size w6 (w6.alloc (.cells #[.int .i64 cc, .slice y1 xs.length z1] 37))) := hid ((Below.refl _ w6).alloc (Nat.le_refl _) _)
  have HB7 := hid (HB6.out.trans (HBb.out.mono HB6.out.size))
  have HT7 := hid (HT6.out.below HBb.out)
  have O7 := hid (Ints.owns_below O6.out HBb.out)
  have I07 := hid (I06.out.below HBb.out)
  have U7 := hid (U6.out.below HBb.out)
  have W7 := hid (W6.out.below HBb.out)
  have L7 : Hid ((w6.alloc (.cells #[.int .i64 cc, .slice y1 xs.length z1] 37)).heap.size = w6.heap.size + 1) := hid (by simp)
  have p07 := old_cell HBb.out (by have := L5.out; have := L4.out; have := L5a.out; have := L6.out; omega) p06
  have p17 := old_cell HBb.out (by have := L5.out; have := L4.out; have := L5a.out; have := L6.out; omega) p16
  have g07 : (w6.alloc (.cells #[.int .i64 cc, .slice y1 xs.length z1] 37)).cell? ⟨w6.heap.size, 0, none⟩ = some (.int .i64 cc) := by go_simp
  have g17 : (w6.alloc (.cells #[.int .i64 cc, .slice y1 xs.length z1] 37)).cell? ⟨w6.heap.size, 1, none⟩ = some (.slice y1 xs.length z1) := by go_simp
  have z3 : w3.heap.size < (w6.alloc (.cells #[.int .i64 cc, .slice y1 xs.length z1] 37)).heap.size := by have := L5.out; have := L4.out; have := L5a.out; have := L6.out; have := L7.out; omega
  clear ho6 hb6 HTa I05 U5 W5 p05 p15 HB5 O6 I06 U6 W6 p06 p16 HT6 HB6 k2 k3
  go_wp2_with fail
  generalize w6.alloc (.cells #[.int .i64 cc, .slice y1 xs.length z1] 37) = w7 at *
  refine (Ints.eqR cc _ _ xs _ HXL.out (IntsAt.of O7.out) I07.out).mono ?_
  rintro e w8 ⟨rfl, hb8⟩
  have L8 := hid hb8.size
  have HB8 := hid (HB7.out.trans (hb8.mono HB7.out.size))
  have HT8 := hid (HT7.out.below hb8)
  have O8 := hid (Ints.owns_below O7.out hb8)
  have I08 := hid (I07.out.below hb8)
  have U8 := hid (U7.out.below hb8)
  have W8 := hid (W7.out.below hb8)
  have p08 := old_cell hb8 z3 p07
  have p18 := old_cell hb8 z3 p17
  have g08 := old_cell hb8 (by have := L7.out; omega) g07
  have g18 := old_cell hb8 (by have := L7.out; omega) g17
  clear hb8 HB7 HT7 O7 I07 U7 W7 p07 p17 g07 g17 HBb HBa
  have HT8d : Hid (Two w8.drew w.heap.size w5.heap.size (.slice a1 g.nodes.length c1) (.slice a2 g.flows.length c2) (.slice x5 g.nodes.length y5) (.slice x6 g.flows.length y6)) := hid HT8.out.drew
  have hB8d := HB8.out.drew
  have HU8d := hid (U8.out.below (Below.refl _ w8).drew)
  have hXd : Below w8.heap.size w8 w8.drew := (Below.refl _ w8).drew
  have P08 := hid p08
  have P18 := hid p18
  have G08 := hid g08
  have G18 := hid g18
  clear p08 p18 g08 g18 U8 z3
  go_wp2
  refine wp_region_held_drew (S := fun wx => Two wx w.heap.size w5.heap.size (.slice a1 g.nodes.length c1) (.slice a2 g.flows.length c2) (.slice x5 g.nodes.length y5) (.slice x6 g.flows.length y6)) (by kernel_rfl) HT8d.out (fun hHeld => ?_)
  refine wpAnyH_take (i := 0) (oi := { dst := some 31, op := Go.Op.load 31 (Go.Operand.tmp 7), type := 31, pos := "exact.go:3217", after := #[], guard := none }) (v := .agg #[.slice x5 g.nodes.length y5, .slice x6 g.flows.length y6]) rfl (by kernel_rfl) (by kernel_rfl) (by kernel_rfl) (fun _ _ _ h => h) (Or.inl ⟨by rfl, by intro w hSw; (try dsimp only at hSw); obtain ⟨s0, s1, s2, s3, s4, s5⟩ := hSw; go_simp⟩) (by assumption) ?_
  simp only [Act.put, List.setIfInBounds_toArray, List.set_cons_zero, List.set_cons_succ]
  refine wpAnyH_take (i := 1) (oi := { dst := some 32, op := Go.Op.load 25 (Go.Operand.tmp 2), type := 25, pos := "exact.go:3217", after := #[], guard := none }) (v := .agg #[.slice a1 g.nodes.length c1, .slice a2 g.flows.length c2]) rfl (by kernel_rfl) (by kernel_rfl) (by kernel_rfl) (fun _ _ _ h => h) (Or.inl ⟨by rfl, by intro w hSw; (try dsimp only at hSw); obtain ⟨s0, s1, s2, s3, s4, s5⟩ := hSw; go_simp⟩) (by assumption) ?_
  simp only [Act.put, List.setIfInBounds_toArray, List.set_cons_zero, List.set_cons_succ]
  refine wpAnyH_ready (rs := [2]) (by kernel_rfl) (by simp) ?_
  refine AllReadyH.cons (o := { dst := some 33, op := Go.Op.call { callee := Go.Callee.value (Go.Operand.func 8), args := #[Go.Operand.tmp 32], argTypes := #[25] }, type := 31, pos := "exact.go:3217", after := #[{ on := 1, ground := Go.Ground.data }], guard := none }) rfl (fun K hK => ?_) AllReadyH.nil
  go_simp
  go_at_call 8
  refine (HC1.out _ hB8d).mono ?_
  rintro e wm ⟨un, uf, rfl, hu, hbm⟩
  obtain ⟨zz1, tt1, rfl⟩ := hu.nodes.slice
  obtain ⟨zz2, tt2, rfl⟩ := hu.flows.slice
  have HC5 := hid (eq _ _ g _ _ _ _ _ S1.out (HU8d.out.below hbm) hu)
  have hBm := hB8d.trans (hbm.mono hB8d.size)
  have hXm := hXd.trans (hbm.mono hXd.size)
  have HTm := hid (HT8d.out.below hbm)
  clear hu hbm
  go_wp2_with fail
  refine hK.out _ _ HTm.out (fun hHeld => ?_)
  clear hK K
  try simp only [Act.put, List.setIfInBounds_toArray, List.set_cons_zero, List.set_cons_succ]
  refine wpAnyH_ready (rs := [3]) (by kernel_rfl) (by simp) ?_
  refine AllReadyH.cons (o := { dst := some 34, op := Go.Op.call { callee := Go.Callee.value (Go.Operand.func 10), args := #[Go.Operand.tmp 31, Go.Operand.tmp 33], argTypes := #[31, 31] }, type := 4, pos := "exact.go:3217", after := #[{ on := 0, ground := Go.Ground.data }, { on := 2, ground := Go.Ground.data }, { on := 2, ground := Go.Ground.chain }], guard := none }) rfl (fun K hK => ?_) AllReadyH.nil
  go_simp
  go_at_call 10
  refine HC5.out.mono ?_
  rintro e wn ⟨rfl, hbn⟩
  have hBn := hBm.trans (hbn.mono hBm.size)
  have hXn := hXm.trans (hbn.mono hXm.size)
  have HTn := hid (HTm.out.below hbn)
  clear hbn HC5 hXm hBm
  go_wp2_with fail
  refine hK.out _ _ HTn.out (fun hHeld => ?_)
  clear hK K
  try simp only [Act.put, List.setIfInBounds_toArray, List.set_cons_zero, List.set_cons_succ]
  refine wpAnyH_take (i := 4) (oi := { dst := some 35, op := Go.Op.unOp Go.UnOp.not 4 (Go.Operand.tmp 34), type := 4, pos := "exact.go:3217", after := #[{ on := 3, ground := Go.Ground.data }], guard := none }) (v := .bool false) rfl (by kernel_rfl) (by kernel_rfl) (by kernel_rfl) (fun _ _ _ h => h) (Or.inl ⟨by rfl, by intro w hSw; (try dsimp only at hSw); obtain ⟨s0, s1, s2, s3, s4, s5⟩ := hSw; go_simp⟩) (by assumption) ?_
  simp only [Act.put, List.setIfInBounds_toArray, List.set_cons_zero, List.set_cons_succ]
  refine wpAnyH_done (by kernel_rfl) ?_ _
  have HXN := hid hXn
  have L10 := hid hXn.size
  have HT10 := hid (HT8.out.below hXn)
  have O10 := hid (Ints.owns_below O8.out hXn)
  have I010 := hid (I08.out.below hXn)
  have W10 := hid (W8.out.below hXn)
  have p010 := old_cell hXn (by have := L5.out; have := L4.out; have := L5a.out; have := L6.out; have := L7.out; have := L8.out; omega) P08.out
  have p110 := old_cell hXn (by have := L5.out; have := L4.out; have := L5a.out; have := L6.out; have := L7.out; have := L8.out; omega) P18.out
  have g010 := old_cell hXn (by have := L7.out; have := L8.out; omega) G08.out
  have g110 := old_cell hXn (by have := L7.out; have := L8.out; omega) G18.out
  have HBn := hid hBn
  have k2 := HT10.out.d0
  have k3 := HT10.out.d1
  clear hBn hXn hXd hB8d HU8d HT8d HT8 HTn HTm O8 I08 W8 P08 P18 G08 G18
  go_wp2_with fail
  refine (Gr.mark w4.heap.size M w5.heap.size g _ _ _ (by have := L5a.out; have := L6.out; have := L7.out; have := L8.out; have := L10.out; omega) LM.out.1 LM.out.2 S1.out W10.out).mono ?_
  rintro e w11 ⟨⟨r11, rfl, hr11⟩, ham⟩
  have HAM := hid ham
  have L11 := hid ham.size
  have HB11 : Hid (Below w.heap.size w w11) := hid ⟨ham.os.trans HBn.out.os, ham.tape.trans HBn.out.tape, ham.output.trans HBn.out.output, Nat.le_trans HBn.out.size ham.size, fun b hb => (ham.block b (by have := HBn.out.size; omega) (.inl (by have := L4.out; have := W3.out; omega))).trans (HBn.out.block b hb)⟩
  have p011 := amid_cell ham (.inl (by have := L4.out; omega)) p010
  have p111 := amid_cell ham (.inl (by have := L4.out; omega)) p110
  have g011 := amid_cell ham (.inr (by have := L5a.out; have := L6.out; omega)) g010
  have g111 := amid_cell ham (.inr (by have := L5a.out; have := L6.out; omega)) g110
  have q11 : ¬ r11 < 0 := by omega
  have O11 := hid (amid_own ham O10.out (fun b hb => .inr (by have := (hg0 b hb).1; have := L5a.out; omega)))
  have I011 := hid (I010.out.kept ham.size (fun b hb hb2 => ham.block b hb2 (.inl (by have := hs0 b hb; have := L4.out; omega))))
  have T11 : Hid (One w11 w.heap.size (.slice a1 g.nodes.length c1) (.slice a2 g.flows.length c2)) := hid ⟨amid_cell ham (.inl LP4.out) HT10.out.c0, amid_cell ham (.inl LP4.out) HT10.out.c1, Nat.lt_of_lt_of_le HT10.out.lp ham.size⟩
  clear O10 I010 W10 p010 p110 g010 g110 ham k2 k3 hr11 HT10 HAM
  have l3 : w3.heap.size < w11.heap.size := by have := L5.out; have := L4.out; have := L5a.out; have := L6.out; have := L7.out; have := L8.out; have := L10.out; have := L11.out; omega
  have l6 : w6.heap.size < w11.heap.size := by have := L7.out; have := L8.out; have := L10.out; have := L11.out; omega
  go_wp2_with fail
  refine (Ints.eqR cc _ _ xs _ HXL.out (IntsAt.of O11.out) I011.out).mono ?_
  rintro e w12 ⟨rfl, hb12⟩
  have HB12 := hid (HB11.out.trans (hb12.mono HB11.out.size))
  have L12 := hid hb12.size
  have p012 := old_cell hb12 l3 p011
  have p112 := old_cell hb12 l3 p111
  have g012 := old_cell hb12 l6 g011
  have g112 := old_cell hb12 l6 g111
  have O12 := hid (Ints.owns_below O11.out hb12)
  have I012 := hid (I011.out.below hb12)
  have T12 := hid (T11.out.below hb12)
  clear O11 I011 p011 p111 g011 g111 hb12 HB11
  have m3 : w3.heap.size < w12.heap.size := Nat.lt_of_lt_of_le l3 L12.out
  have m6 : w6.heap.size < w12.heap.size := Nat.lt_of_lt_of_le l6 L12.out
  clear l3 l6
  go_wp2_with fail
  refine (Ints.markR cc _ _ xs _ HXL.out (by have := L5.out; have := L5a.out; have := L6.out; omega) O12.out).mono ?_
  rintro e w13 ⟨rfl, ho13, hg13⟩
  have L13 := hid hg13.size
  have hne : Hid (∀ b, b ≤ w5.heap.size ∨ w6.heap.size ≤ b → (Value.slice y1 xs.length z1).ownBlock ≠ some b) := hid (fun b hb e => by have := hg0 b e; have := L5a.out; omega)
  have HB13 : Hid (Below w.heap.size w w13) := hid (HB12.out.grown hg13 HB12.out.size (fun b e => by have := hg0 b e; have := W5S.out; have := L5a.out; omega))
  have p013 := grown_cell hg13 p012 (hne.out _ (.inl (by have := L5.out; have := L4.out; omega)))
  have p113 := grown_cell hg13 p112 (hne.out _ (.inl (by have := L5.out; have := L4.out; omega)))
  have g013 := grown_cell hg13 g012 (hne.out _ (.inr (Nat.le_refl _)))
  have g113 := grown_cell hg13 g112 (hne.out _ (.inr (Nat.le_refl _)))
  have M13 : Hid (IntsAt w13 (.slice y1 xs.length z1) (marksTo xs.length)) := hid (IntsAt.of (by rw [Ints.marksTo_len]; exact ho13))
  have I013 := hid (I012.out.kept hg13.size (fun b hb hb2 => hg13.block b hb2 (fun e => by have := hs0 b hb; have := L5.out; have := L4.out; exact hne.out b (.inl (by omega)) e.symm)))
  have T13 : Hid (One w13 w.heap.size (.slice a1 g.nodes.length c1) (.slice a2 g.flows.length c2)) := hid ⟨grown_cell hg13 T12.out.c0 (hne.out _ (.inl (by have := LP4.out; have := L5.out; omega))), grown_cell hg13 T12.out.c1 (hne.out _ (.inl (by have := LP4.out; have := L5.out; omega))), Nat.lt_of_lt_of_le T12.out.lp hg13.size⟩
  have n3 := Nat.lt_of_lt_of_le m3 hg13.size
  have n6 := Nat.lt_of_lt_of_le m6 hg13.size
  clear O12 I012 p012 p112 g012 g112 hg13 ho13 m3 m6 HB12
  go_wp2_with fail
  refine (Ints.heldR cc _ xs.length _ HXL.out M13.out).mono ?_
  rintro e w14 ⟨rfl, hb14⟩
  have HB14 := hid (HB13.out.trans (hb14.mono HB13.out.size))
  have p014 := old_cell hb14 n3 p013
  have p114 := old_cell hb14 n3 p113
  have g014 := old_cell hb14 n6 g013
  have g114 := old_cell hb14 n6 g113
  have HT14 := hid (T13.out.below hb14)
  have M14 := hid (M13.out.below hb14)
  have I014 := hid (I013.out.below hb14)
  have qq1 : ¬ (1 + (xs.length : Int)) < 0 := by omega
  have qq2 : ((1 + (xs.length : Int)) != (1 + (xs.length : Int))) = false := by simp
  have o3 := Nat.lt_of_lt_of_le n3 hb14.size
  have o6 := Nat.lt_of_lt_of_le n6 hb14.size
  clear M13 I013 p013 p113 g013 g113 hb14 n3 n6 HB13
  obtain ⟨k0, k1, lp⟩ := HT14.out
  go_wp2_with fail
  refine (HC1.out _ HB14.out).mono ?_
  rintro e w15 ⟨un, uf, rfl, hu4, hb15⟩
  obtain ⟨x7, y7, rfl⟩ := hu4.nodes.slice
  obtain ⟨x8, y8, rfl⟩ := hu4.flows.slice
  have HB15 := hid (HB14.out.trans (hb15.mono HB14.out.size))
  have U4 := hid (hu4.mono (Nat.zero_le _))
  clear hu4
  go_wp2_with fail
  refine (HIK.out _ _ _ HB15.out U4.out).mono ?_
  rintro e w16 ⟨⟨h0, rfl, ho16⟩, hb16⟩
  have hx16 : Below w14.heap.size w14 w16 := hb15.trans (hb16.mono hb15.size)
  have HB16 := hid (HB15.out.trans (hb16.mono HB15.out.size))
  obtain ⟨y2, z2, rfl⟩ := Ints.owns_slice ho16
  have HBc : Hid (Below w16.heap.size w16 (w16.alloc (.cells #[.int .i64 cc, .slice y2 xs.length z2] 37))) := hid ((Below.refl _ w16).alloc (Nat.le_refl _) _)
  have HX17 := hid (hx16.trans (HBc.out.mono hx16.size))
  have HB17 := hid (HB16.out.trans (HBc.out.mono HB16.out.size))
  have p017 := old_cell HX17.out o3 p014
  have p117 := old_cell HX17.out o3 p114
  have g017 := old_cell HX17.out o6 g014
  have g117 := old_cell HX17.out o6 g114
  have M17 := hid (M14.out.below HX17.out)
  have I017 := hid (I014.out.below HX17.out)
  have J17 := hid ((IntsAt.of ho16).below HBc.out)
  have h017 : (w16.alloc (.cells #[.int .i64 cc, .slice y2 xs.length z2] 37)).cell? ⟨w16.heap.size, 0, none⟩ = some (.int .i64 cc) := by go_simp
  have h117 : (w16.alloc (.cells #[.int .i64 cc, .slice y2 xs.length z2] 37)).cell? ⟨w16.heap.size, 1, none⟩ = some (.slice y2 xs.length z2) := by go_simp
  have l3 := Nat.lt_of_lt_of_le o3 HX17.out.size
  have l6 := Nat.lt_of_lt_of_le o6 HX17.out.size
  have l16 : w16.heap.size < (w16.alloc (.cells #[.int .i64 cc, .slice y2 xs.length z2] 37)).heap.size := by simp
  clear M14 I014 p014 p114 g014 g114 ho16 hb15 hb16 hx16 U4 k0 k1 lp HT14 o3 o6 HB16 HB15 HB14
  go_wp2_with fail
  generalize w16.alloc (.cells #[.int .i64 cc, .slice y2 xs.length z2] 37) = w17 at *
  refine (Ints.eqR cc _ _ xs _ HXL.out J17.out I017.out).mono ?_
  rintro e w18 ⟨rfl, hb18⟩
  have HB18 := hid (HB17.out.trans (hb18.mono HB17.out.size))
  have g018 := old_cell hb18 l6 g017
  have g118 := old_cell hb18 l6 g117
  have M18 := hid (M17.out.below hb18)
  clear M17 I017 J17 p017 p117 g017 g117 h017 h117 hb18 HB17 HX17 HBc
  go_wp2_with fail
  refine (Ints.heldR cc _ xs.length _ HXL.out M18.out).mono ?_
  rintro e w19 ⟨rfl, hb19⟩
  have HB19 := hid (HB18.out.trans (hb19.mono HB18.out.size))
  go_wp2
  go_ret
  exact ⟨rfl, HB19.out⟩
set_option maxRecDepth 100000 in
theorem contract (H : Type) (enc : TypeId × Value → H) (W : World) (base : Nat) (args : Array Value) (ds gs : List (DataW H)) (before : List MemPlace)
    (hval : ∀ (j : Nat) t v, Tryd.f5.params[j]? = some t → args[j]? = some v → Value.okWide Tryd.prog W .any base t v)
    (hW : DataW.Whole enc Tryd.prog Tryd.f5.params.toList Rows.fnExactFlowsToSpec.vars false W args.toList ds gs before) (hL : laidMetH Tryd.prog Rows.fnExactFlowsToRow.laid W) :
    Calls Tryd.prog 5 args W fun e W' => ∃ v, e = .returned v ∧ Rows.fnExactFlowsToSpec.post enc Tryd.prog Tryd.f5 false true false false W args v W' := by
  have hent := Crd.rul_of hL
  have hW' := hW
  obtain ⟨p, q, hA0, hV, rfl, hfz, hnd⟩ := hW
  have hA : DataW.TrodAll enc Tryd.prog W 0 (fun _ => true) true Tryd.f5.params.toList args.toList ds p := hA0
  rw [Tryd.params5] at hA hval
  obtain ⟨v0, vs0, d0, ds0, p0, q0, hargs, rfl, rfl, h0, r0⟩ := trodAll_cons hA
  obtain ⟨v1, vs1, d1, ds1, p1, q1, rfl, rfl, rfl, h1, r1⟩ := trodAll_cons r0
  obtain ⟨rfl, rfl, rfl⟩ := trodAll_nil r1
  obtain rfl : args = #[v0, v1] := by cases args; simp_all
  obtain ⟨cs0, rfl, _⟩ := okWide_struct Tryd.underlying25 (hval 0 25 v0 rfl rfl)
  have k0 := h0
  have lt0 : ∀ x ∈ p0, x.block < W.heap.size := by obtain ⟨m, hm⟩ := k0; exact DataW.trod_lt m _ _ _ hm
  obtain ⟨g0, n0, f0, hc0, ga0, gk0⟩ : ∃ (g : Gr.GraphD) (vn vf : Value), cs0.toList = [vn, vf] ∧ Gr.At W 0 vn vf g ∧ Gr.Ok g := by
    obtain ⟨fuel, hf⟩ := h0
    exact Gr.open_all (by simpa [Value.cells] using hf)
  obtain rfl : cs0 = #[n0, f0] := by cases cs0; simp_all
  obtain ⟨x1, rfl, rfl, rfl, wx1⟩ := open_int Tryd.underlying2 (hval 1 2 v1 rfl rfl) h1
  clear hA0
  refine (walk g0 _ _ x1 W gk0 ga0 hent).mono fun e W' ⟨he, bel⟩ => ?_
  subst he
  have hV0 := hV
  obtain ⟨g, t, cs, fuel, dv, pv, rfl, hg, ht, hvar, hd, rfl⟩ := trodVars_one hV
  have hv' := Below.trodVars Crd.laidOut bel (ns := Rows.fnExactFlowsToSpec.vars) (by kernel_rfl) hV0
  exact ⟨_, rfl, _, _, _, [], _, _, hW', trodAll_mk1 (shut_bool Tryd.underlying4 _), (trodAll_cons_mk (Below.trod Crd.laidOut (by kernel_rfl) (of_decide_eq_true (by kernel_rfl)) k0 bel lt0) (trodAll_cons_mk (shut_int Tryd.underlying2 wx1) trodAll_mk0)), hv', bel.frame _, fun h => by cases h⟩
theorem laid_met (os : Os) : laidMet Tryd.prog Rows.fnExactFlowsToRow.laid ((Crd.laidOver (World.holding Tryd.prog os ⟨#[], #[], []⟩)).forCall (fun _ _ => 0) ⟨#[], #[.agg #[.slice Option.none 0 0, .slice Option.none 0 0], .int .i64 0], []⟩).memory :=
  laidMet_of_run' 8 (by kernel_rfl) (by kernel_rfl)
theorem reads (os : Os) {H : Type} (enc : TypeId × Value → H) : ∃ places, DataW.whole enc Tryd.prog ((Crd.laidOver (World.holding Tryd.prog os ⟨#[], #[], []⟩)).forCall (fun _ _ => 0) ⟨#[], #[.agg #[.slice Option.none 0 0, .slice Option.none 0 0], .int .i64 0], []⟩).memory Tryd.f5.params.toList Rows.fnExactFlowsToSpec.vars false #[Value.agg #[.slice Option.none 0 0, .slice Option.none 0 0], Value.int .i64 0].toList 8 = some ([.agg [.nil, .nil], .lit (.int .i64 0)], [Rows.laid_loop_example_g00343_impl_nodeRules], places) :=
  ⟨MemPlace.row ⟨0, 0, Option.none⟩ 65, by kernel_rfl⟩
set_option maxRecDepth 100000 in
theorem lifted (os : Os) (started : os.Started) (H : Type) (enc : TypeId × Value → H) (F : Stop.Interp) :
    ReturnsInHanded {} Tryd.checked os 5 .any ((OpenSpec.ofChange Rows.fnExactFlowsToSpec).preRow enc Tryd.prog Tryd.f5 Rows.fnExactFlowsToRow.domain false Rows.fnExactFlowsToRow.laid) (((OpenSpec.ofChange Rows.fnExactFlowsToSpec).at F).post enc Tryd.prog Tryd.f5 false true false false) := by
  obtain ⟨places, hx⟩ := reads os enc
  refine returnsInHanded_of_row (C := Tryd.checked) (s := OpenSpec.ofChange Rows.fnExactFlowsToSpec) Crd.own started (by kernel_rfl) Tryd.func5
    (witness_row_at (enc := enc) (C := Tryd.checked) false (Crd.laidOver (World.holding Tryd.prog os ⟨#[], #[], []⟩)) #[.agg #[.slice Option.none 0 0, .slice Option.none 0 0], .int .i64 0] rfl (by kernel_rfl) (by kernel_rfl) (by kernel_rfl)
      (OpenSpec.preRow_of_cond 8 hx (by kernel_rfl) (fun k hk => by cases hk) (by kernel_rfl) (laid_met os))) ?_
  intro W base args ds gs before hval hW _ _ _ hL _ _
  exact contract H enc W base args ds gs before hval hW hL
theorem said : Rows.FnExactFlowsToSaid :=
  OpenClaim.holds_of_cond 5 Tryd.f5 rfl rfl rfl rfl rfl rfl rfl ⟨rfl, rfl, rfl, rfl, rfl⟩ rfl rfl rfl rfl rfl (by kernel_rfl) Tryd.func5 (by kernel_rfl)
    (of_decide_eq_true (by kernel_rfl)) (by unfold Func.isWrapper; first | (rw [if_pos (by decide +kernel)]; kernel_rfl) | (rw [if_neg (by decide +kernel)]; exact ⟨rfl, rfl⟩))
    (fun os started H enc _ F => by rw [OpenClaim.pre_eq_preRow]; exact lifted os started H enc F)
set_option maxRecDepth 100000 in
theorem plain (f : FuncId) (fn : Func) (hf : Tryd.pinned.checked.prog.funcNamed "loop.example/g00343/laws.FnExactFlowsTo" = some f) (hfn : Tryd.pinned.checked.prog.funcs[f]? = some fn) :
    false = Tryd.pinned.checked.prog.looks [] ∧ ∀ (j : Nat) t, fn.params[j]? = some t → Tryd.pinned.checked.prog.wantsStandIn t = false := by
  obtain rfl : f = 5 := Option.some.inj ((show Tryd.prog.funcNamed "loop.example/g00343/laws.FnExactFlowsTo" = some 5 by kernel_rfl).symm.trans hf) |>.symm
  obtain rfl : fn = Tryd.f5 := (Option.some.inj (Tryd.func5.symm.trans hfn)).symm
  refine ⟨by kernel_rfl, fun j t ht => ?_⟩
  rw [Tryd.params5] at ht
  have hm : t = 25 ∨ t = 2 := by simpa using Array.mem_of_getElem? ht
  rcases hm with rfl | rfl
  · exact (show Tryd.prog.wantsStandIn 25 = false by kernel_rfl)
  · exact (show Tryd.prog.wantsStandIn 2 = false by kernel_rfl)
end FtL
theorem fnExactFlowsTo_card : Rows.FnExactFlowsToCardSaid :=
  Claim7.holds_tied_plain_at .later [] _ _ _ _ FtL.said (fun _ h => by cases h) (by kernel_rfl) (fun _ h => by cases h) fnExactFlowsTo_row_tie rfl ⟨rfl, rfl⟩ (by kernel_rfl) rfl FtL.plain (by kernel_rfl)
#print axioms fnExactFlowsTo_card
end Go.Proofs.YtkmcfdcdgcdpgaaDoor
