/- Laid together: SxE, PoE, TfN. -/
import Derived.Test.YtahkpgffoiaeiaaGreatDoorJProcOf32
import Derived.Deep.RegionHeld3
import Derived.Test.YtahkpgffoiaeiaaGreatDoorJProcOf16
import Derived.Test.YtahkpgffoiaeiaaGreatDoorJProcOf22
/- The specification's reading: l3Parse, ParseExpr. -/
namespace Go.Proofs.YtahkpgffoiaeiaaGreatDoor
open Go.RowKit
set_option linter.unusedVariables false
namespace Ex
open Nd (NodeD)
def parse1Post (text : List UInt8) (w : World) (e : Ending) (w' : World) : Prop :=
  ∃ (a : Option Addr) (n c : Nat) (ok : Bool), e = .returned (.tuple #[.slice a n c, .bool ok]) ∧ Below w.heap.size w w' ∧ ((ok = true ∧ ∃ t, parseF text = some t ∧ n = (t.nodes 0).length ∧ w'.ownsRow (w.heap.size + 1) 143 4 (.slice a n c) n (nvals (t.nodes 0))) ∨ (ok = false ∧ parseF text = none))
theorem part_no {text : List UInt8} {x : Int} {p' : Nat} {ns' : List NodeD} (h : partW (text.length + 1) text 0 [] x false p' ns') : parseF text = none := by
  refine parse_none (fun t ht hh => ?_)
  rcases h with ⟨h, _⟩ | ⟨_, h⟩
  · cases h
  · rw [List.drop_zero] at h
    have := h t [] ht
    simp only [List.length_nil] at this
    omega
theorem part_rest {text : List UInt8} {x : Int} {p' : Nat} {ns' : List NodeD} (h : partW (text.length + 1) text 0 [] x true p' ns') (hp : p' < text.length) : parseF text = none := by
  refine parse_none (fun t ht hh => ?_)
  rcases h with ⟨_, ⟨t2, h1, _, _⟩ | ⟨h1, _, _⟩⟩ | ⟨h, _⟩
  · rw [List.drop_zero, ht] at h1
    simp only [Option.some.injEq, Prod.mk.injEq] at h1
    have := congrArg List.length h1.2
    rw [List.length_drop, List.length_nil] at this
    omega
  · rw [List.drop_zero, ht] at h1; cases h1
  · cases h
theorem part_whole {text : List UInt8} {x : Int} {ns' : List NodeD} (h : partW (text.length + 1) text 0 [] x true text.length ns') : ∃ t : Tm, gp (text.length + 1) text = some (t, []) ∧ ns' = t.nodes 0 := by
  rcases h with ⟨_, ⟨t2, h1, h2, h3⟩ | ⟨h1, h2, _⟩⟩ | ⟨h, _⟩
  · rw [List.drop_zero, List.drop_eq_nil_of_le (Nat.le_refl _)] at h1
    exact ⟨t2, h1, by rw [h3]; rfl⟩
  · omega
  · cases h
set_option maxRecDepth 100000 in
set_option maxHeartbeats 8000000 in
theorem specParse1 (text : List UInt8) (w : World) (hl : text.length ≤ 200) : Calls Tryz.prog 53 #[.string (str text)] w (parse1Post text w) := by
  have e1 : (str text).size = text.length := str_size text
  have hb0 : Below w.heap.size w (w.alloc (.cells #[.string (str text), .int .i64 0, .slice none 0 0] 146)) := (Below.refl _ w).alloc (Nat.le_refl _) _
  have HSR : Hid (Sr (w.alloc (.cells #[.string (str text), .int .i64 0, .slice none 0 0] 146)) w.heap.size text 0 []) := hid ⟨.slice none 0 0, World.alloc_heap_new w _, World.ownsRow_nil _ _ _ 4⟩
  have HT := hid (specPart w.heap.size text (by omega) (text.length + 1) 0 [] _ (by omega) (by omega) (by simp; omega) HSR.out)
  have HB := hid hb0
  unfold parse1Post
  clear hb0 HSR
  go_enter Tryz.func53, Tryz.ntmps53
  go_wp2_with fail
  refine HT.out.mono ?_
  rintro e w1 ⟨x, ok, p', ns', rfl, hr, hp1, hp2, hn, hW, hb⟩
  have hsz := hr.lt
  obtain ⟨c0, c1, f1, f2, a, cap, c2, ho⟩ := hr.c
  have HB1 := hid (HB.out.trans hb)
  have HWW := hid hW
  have HO := hid ho
  clear HT HB hb hW hr ho f1 f2 c0
  have hsl : slack ok ≤ 1 := by cases ok <;> decide
  have hn2 : ns'.length ≤ 202 := by simp only [List.length_nil] at hn; omega
  clear hn hsl
  cases ok
  · have HV := hid (part_no HWW.out)
    go_wp2
    go_quiet (fail)
    go_wp2
    go_ret2
    exact ⟨a, _, cap, false, rfl, Ints.below_drewN HB1.out _, .inr ⟨rfl, HV.out⟩⟩
  by_cases hq : p' < text.length
  · have q1 : ((p' : Int) == (text.length : Int)) = false := by simp; omega
    have HV := hid (part_rest HWW.out hq)
    go_wp2
    go_quiet (fail)
    go_wp2
    go_ret2
    exact ⟨a, _, cap, false, rfl, Ints.below_drewN HB1.out _, .inr ⟨rfl, HV.out⟩⟩
  obtain rfl : p' = text.length := by omega
  have q1 : ((text.length : Int) == (text.length : Int)) = true := by simp
  obtain ⟨t, ht, hns⟩ := part_whole HWW.out
  have HF := hid (fun (wx : World) (h : Below w1.heap.size w1 wx) => specFault1 _ ns' _ wx (by omega) (at_of_owns (owns_keep HO.out h)))
  have HV : Hid ((eFault ns' = 0 → parseF text = some t) ∧ (eFault ns' ≠ 0 → parseF text = none)) := hid (by
    have hnear := (gp_txt _ _ _ _ ht).2
    constructor
    · intro h
      rw [hns] at h
      exact parse_some ht ((e_nodes hnear).1 h)
    · intro h
      refine parse_none (fun t' ht' hh => ?_)
      rw [ht] at ht'
      cases ht'
      rw [hns] at h
      exact h ((e_nodes hnear).2 hh))
  have HNS := hid hns
  have hself : Below w1.heap.size w1 w1 := Below.refl _ _
  clear ht hns HWW hq hp1 hp2
  generalize eFault ns' = ef at *
  obtain ⟨bf, hbf⟩ : ∃ bf, (ef == 0) = bf := ⟨_, rfl⟩
  have HBF := hid hbf
  go_wp2
  go_region_held3 (fun wx => wx.cell? ⟨w.heap.size, 1, none⟩ = some (.int .i64 (text.length : Int)) ∧ wx.cell? ⟨w.heap.size, 2, none⟩ = some (.slice a ns'.length cap) ∧ Below w1.heap.size w1 wx) (refine ⟨?_, ?_, ?_⟩ <;> first | assumption | exact hself.drew | (simp [*]; done)) (first
    | (go_at_call 59; refine (HF.out _ ?_).mono ?_; (first | assumption | exact hself.drew); rintro e w4 ⟨rfl, hb4⟩; have hB4 : Below w1.heap.size w1 w4 := hself.drew.trans hb4; have hk1 := kept_cell hB4 hsz c1; have hk2 := kept_cell hB4 hsz c2))
  go_wp2
  go_ret2
  refine ⟨a, ns'.length, cap, bf, rfl, HB1.out.trans (hB4.mono (Nat.le_of_lt hsz)), ?_⟩
  have hO4 := owns_keep HO.out hB4
  have hns := HNS.out
  cases bf
  · exact .inr ⟨rfl, HV.out.2 (fun e => by rw [e] at hbf; cases hbf)⟩
  · refine .inl ⟨rfl, t, HV.out.1 (eq_of_beq hbf), by rw [hns], ?_⟩
    rw [← hns]
    exact hO4
end Ex
end Go.Proofs.YtahkpgffoiaeiaaGreatDoor
/- An attr is put into a step: the specification's l5Put. -/
namespace Go.Proofs.YtahkpgffoiaeiaaGreatDoor
open Go.RowKit
set_option linter.unusedVariables false
namespace Po
open Ex (hid str nvals specParse1 parse1Post parseF)
open Nd (NodeD)
open St (StepD)
open Tr (AttrD)
open Tf (aIf aName aTo)
open Nst (own)
set_option maxRecDepth 100000 in
set_option maxHeartbeats 4000000 in
theorem putName (S g o : Nat) (s : StepD) (a : AttrD) (vc ve : Value) (w : World) (h : a.value.size ≤ 40) (hs : SV w S s vc ve) (hg : g ≠ S) (c0 : w.cell? ⟨g, o, none⟩ = some (.string a.name)) (c1 : w.cell? ⟨g, o + 1, none⟩ = some (.string a.value)) (hn : eqN a.name aName = true) :
    Calls Tryz.prog 34 #[.pointer (some ⟨S, 0, none⟩), .pointer (some ⟨g, o, none⟩)] w (PutPost S s a w) := by
  have k0 : (a.name.toList == [110, 97, 109, 101]) = true := by rw [← aName_l]; exact hn
  have HP : Hid (putA s a = some { s with name := a.value }) := hid (by unfold putA; rw [if_pos hn])
  have HS := hid hs
  have hlt := hs.lt
  have hgl := Nd.lt_of_cell c0
  have m2 : w.cell? ⟨S, 2, none⟩ = some (.string s.name) := blk_cell hs.blk 2
  have f2 := blk_free hs.blk 2
  clear hs hn
  generalize a.value = x at *
  generalize a.name = y at *
  go_enter Tryz.func34, Tryz.ntmps34
  go_wp2
  go_ret
  exact ⟨.inr ⟨_, _, _, HP.out, rfl, HS.out.name x⟩, Off.set S 2 _ w⟩
set_option maxRecDepth 100000 in
set_option maxHeartbeats 4000000 in
theorem putIf (S g o : Nat) (s : StepD) (a : AttrD) (vc ve : Value) (w : World) (h : a.value.size ≤ 40) (hs : SV w S s vc ve) (hg : g ≠ S) (c0 : w.cell? ⟨g, o, none⟩ = some (.string a.name)) (c1 : w.cell? ⟨g, o + 1, none⟩ = some (.string a.value)) (hn0 : eqN a.name aName = false) (hn : eqN a.name aIf = true) :
    Calls Tryz.prog 34 #[.pointer (some ⟨S, 0, none⟩), .pointer (some ⟨g, o, none⟩)] w (PutPost S s a w) := by
  have k0 : (a.name.toList == [110, 97, 109, 101]) = false := by rw [← aName_l]; exact hn0
  have k1 : (a.name.toList == [105, 102]) = true := by rw [← aIf_l]; exact hn
  have HP : Hid (putA s a = (exprF a.value).map fun l => { s with cond := l }) := hid (by unfold putA; rw [if_neg (by rw [hn0]; simp), if_pos hn])
  have HS := hid hs
  have hlt := hs.lt
  have hgl := Nd.lt_of_cell c0
  have hl : a.value.data.toList.length = a.value.size := by simp
  have HC := hid (specParse1 a.value.data.toList w (by omega))
  rw [str_of] at HC
  have HX : Hid (∀ q, parseF a.value.data.toList = q → exprF a.value = q.map fun t => t.nodes 0) := hid (fun q hq => by unfold exprF; rw [hq])
  clear hs hl hn hn0
  generalize a.value = x at *
  generalize a.name = y at *
  go_enter Tryz.func34, Tryz.ntmps34
  go_wp2_with fail
  refine HC.out.mono ?_
  rintro e w2 ⟨au, nu, cu, ok, rfl, hb2, hd⟩
  have HB2 := hid hb2
  have HS2 := hid (HS.out.keep hb2)
  have c2 := blk_cell HS2.out.blk 4
  have f2 := blk_free HS2.out.blk 4
  have l2 := HS2.out.lt
  replace c2 : w2.cell? ⟨S, 4, none⟩ = some vc := c2
  have HD : Hid ((ok = false ∧ exprF x = none) ∨ (ok = true ∧ ∃ l, exprF x = some l ∧ w2.ownsRow w.heap.size 143 4 (.slice au nu cu) l.length (nvals l))) := hid (by
    rcases hd with ⟨h1, t, h2, h3, h4⟩ | ⟨h1, h2⟩
    · exact .inr ⟨h1, _, HX.out _ h2, by rw [← h3]; exact Nst.own_mono h4 (by omega)⟩
    · exact .inl ⟨h1, HX.out _ h2⟩)
  clear hb2 hd
  go_wp2
  go_ret
  refine ⟨?_, (Off.of_below HB2.out).trans (Off.set S 4 _ w2)⟩
  rcases HD.out with ⟨rfl, h1⟩ | ⟨rfl, l, h1, h2⟩
  · exact .inl ⟨by rw [HP.out, h1]; rfl, rfl, HS2.out.six.set4 _ _ _⟩
  · exact .inr ⟨_, _, _, by rw [HP.out, h1]; rfl, rfl, HS.out.putCond HB2.out h2⟩
set_option maxRecDepth 100000 in
set_option maxHeartbeats 4000000 in
theorem putTo (S g o : Nat) (s : StepD) (a : AttrD) (vc ve : Value) (w : World) (h : a.value.size ≤ 40) (hs : SV w S s vc ve) (hg : g ≠ S) (c0 : w.cell? ⟨g, o, none⟩ = some (.string a.name)) (c1 : w.cell? ⟨g, o + 1, none⟩ = some (.string a.value)) (hn0 : eqN a.name aName = false) (hn1 : eqN a.name aIf = false) (hn : eqN a.name aTo = true) :
    Calls Tryz.prog 34 #[.pointer (some ⟨S, 0, none⟩), .pointer (some ⟨g, o, none⟩)] w (PutPost S s a w) := by
  have k0 : (a.name.toList == [110, 97, 109, 101]) = false := by rw [← aName_l]; exact hn0
  have k1 : (a.name.toList == [105, 102]) = false := by rw [← aIf_l]; exact hn1
  have k2 : (a.name.toList == [116, 111]) = true := by rw [← aTo_l]; exact hn
  have HP : Hid (putA s a = (exprF a.value).map fun l => { s with expr := l }) := hid (by unfold putA; rw [if_neg (by rw [hn0]; simp), if_neg (by rw [hn1]; simp), if_pos hn])
  have HS := hid hs
  have hlt := hs.lt
  have hgl := Nd.lt_of_cell c0
  have hl : a.value.data.toList.length = a.value.size := by simp
  have HC := hid (specParse1 a.value.data.toList w (by omega))
  rw [str_of] at HC
  have HX : Hid (∀ q, parseF a.value.data.toList = q → exprF a.value = q.map fun t => t.nodes 0) := hid (fun q hq => by unfold exprF; rw [hq])
  clear hs hl hn hn0 hn1
  generalize a.value = x at *
  generalize a.name = y at *
  go_enter Tryz.func34, Tryz.ntmps34
  go_wp2_with fail
  refine HC.out.mono ?_
  rintro e w2 ⟨au, nu, cu, ok, rfl, hb2, hd⟩
  have HB2 := hid hb2
  have HS2 := hid (HS.out.keep hb2)
  have c2 := blk_cell HS2.out.blk 5
  have f2 := blk_free HS2.out.blk 5
  have l2 := HS2.out.lt
  replace c2 : w2.cell? ⟨S, 5, none⟩ = some ve := c2
  have HD : Hid ((ok = false ∧ exprF x = none) ∨ (ok = true ∧ ∃ l, exprF x = some l ∧ w2.ownsRow w.heap.size 143 4 (.slice au nu cu) l.length (nvals l))) := hid (by
    rcases hd with ⟨h1, t, h2, h3, h4⟩ | ⟨h1, h2⟩
    · exact .inr ⟨h1, _, HX.out _ h2, by rw [← h3]; exact Nst.own_mono h4 (by omega)⟩
    · exact .inl ⟨h1, HX.out _ h2⟩)
  clear hb2 hd
  go_wp2
  go_ret
  refine ⟨?_, (Off.of_below HB2.out).trans (Off.set S 5 _ w2)⟩
  rcases HD.out with ⟨rfl, h1⟩ | ⟨rfl, l, h1, h2⟩
  · exact .inl ⟨by rw [HP.out, h1]; rfl, rfl, HS2.out.six.set5 _ _ _⟩
  · exact .inr ⟨_, _, _, by rw [HP.out, h1]; rfl, rfl, HS.out.putExpr HB2.out h2⟩
set_option maxRecDepth 100000 in
set_option maxHeartbeats 4000000 in
theorem putNum (S g o : Nat) (s : StepD) (a : AttrD) (vc ve : Value) (w : World) (h : a.value.size ≤ 40) (hs : SV w S s vc ve) (hg : g ≠ S) (c0 : w.cell? ⟨g, o, none⟩ = some (.string a.name)) (c1 : w.cell? ⟨g, o + 1, none⟩ = some (.string a.value)) (hn0 : eqN a.name aName = false) (hn1 : eqN a.name aIf = false) (hn2 : eqN a.name aTo = false) :
    Calls Tryz.prog 34 #[.pointer (some ⟨S, 0, none⟩), .pointer (some ⟨g, o, none⟩)] w (PutPost S s a w) := by
  have k0 : (a.name.toList == [110, 97, 109, 101]) = false := by rw [← aName_l]; exact hn0
  have k1 : (a.name.toList == [105, 102]) = false := by rw [← aIf_l]; exact hn1
  have k2 : (a.name.toList == [116, 111]) = false := by rw [← aTo_l]; exact hn2
  have HP : Hid (putA s a = (numF a.value.data.toList).map fun n => { s with arg := n }) := hid (by unfold putA; rw [if_neg (by rw [hn0]; simp), if_neg (by rw [hn1]; simp), if_neg (by rw [hn2]; simp)])
  have HS := hid hs
  have hlt := hs.lt
  have hgl := Nd.lt_of_cell c0
  have hl : a.value.data.toList.length = a.value.size := by simp
  have HC := hid (specNum a.value.data.toList w (by omega))
  rw [str_of] at HC
  have m3 : w.cell? ⟨S, 3, none⟩ = some (.int .i64 s.arg) := blk_cell hs.blk 3
  have f3 := blk_free hs.blk 3
  clear hs hn0 hn1 hn2 hl
  generalize a.value = x at *
  generalize a.name = y at *
  go_enter Tryz.func34, Tryz.ntmps34
  go_wp2_with fail
  refine HC.out.mono ?_
  rintro e w2 ⟨hd, rfl⟩
  rcases hd with ⟨h1, rfl⟩ | ⟨n, h1, rfl⟩
  · have HX := hid h1
    clear h1
    go_wp2
    go_ret
    exact ⟨.inl ⟨by rw [HP.out, HX.out]; rfl, rfl, HS.out.six.set3 _⟩, Off.set S 3 _ _⟩
  · have HX := hid h1
    clear h1
    go_wp2
    go_ret
    exact ⟨.inr ⟨_, _, _, by rw [HP.out, HX.out]; rfl, rfl, HS.out.arg n⟩, Off.set S 3 _ _⟩
theorem specPut (S g o : Nat) (s : StepD) (a : AttrD) (vc ve : Value) (w : World) (h : a.value.size ≤ 40) (hs : SV w S s vc ve) (hg : g ≠ S) (c0 : w.cell? ⟨g, o, none⟩ = some (.string a.name)) (c1 : w.cell? ⟨g, o + 1, none⟩ = some (.string a.value)) :
    Calls Tryz.prog 34 #[.pointer (some ⟨S, 0, none⟩), .pointer (some ⟨g, o, none⟩)] w (PutPost S s a w) := by
  cases h0 : eqN a.name aName
  · cases h1 : eqN a.name aIf
    · cases h2 : eqN a.name aTo
      · exact putNum S g o s a vc ve w h hs hg c0 c1 h0 h1 h2
      · exact putTo S g o s a vc ve w h hs hg c0 c1 h0 h1 h2
    · exact putIf S g o s a vc ve w h hs hg c0 c1 h0 h1
  · exact putName S g o s a vc ve w h hs hg c0 c1 h0
end Po
end Go.Proofs.YtahkpgffoiaeiaaGreatDoor
/- The names of the attrs that a kind has, as the specification answers them. -/
namespace Go.Proofs.YtahkpgffoiaeiaaGreatDoor
open Go.RowKit
set_option linter.unusedVariables false
namespace Tf
open Ex (hid inR eFault str str_size textOf)
open Nd (NodeD)
open St (StepD)
open Pf
open Nst (own)
set_option maxRecDepth 100000 in
set_option maxHeartbeats 2000000 in
theorem specNames (s : StepD) (w : World) (hk : inR s.kind 1 8 = true) :
    Calls Tryz.prog 33 #[.int .i64 s.kind] w fun e w' => ∃ v, e = .returned v ∧ SsAt w' w.heap.size w'.heap.size v (namesL s) ∧ Below w.heap.size w w' := by
  have HB : ∀ o, Hid (Below w.heap.size w (w.alloc o)) := fun o => hid ((Below.refl _ w).alloc (Nat.le_refl _) _)
  rcases kinds hk with k | k | k | k | k | k | k | k
  · have HN : Hid (namesL s = []) := hid (by unfold namesL; rw [kind0 (by omega)]; rfl)
    rw [k]
    clear k hk
    go_enter Tryz.func33, Tryz.ntmps33
    go_wp2
    go_ret
    exact ⟨_, rfl, by rw [HN.out]; exact ss_nil _ _ _ _ _, (HB _).out⟩
  · have HN : Hid (namesL s = [aName]) := hid (by unfold namesL; rw [kind2 k]; rfl)
    rw [k]
    clear k hk
    go_enter Tryz.func33, Tryz.ntmps33
    go_wp2
    go_ret
    exact ⟨_, rfl, by rw [HN.out]; exact ss_one _ _, (HB _).out⟩
  · have HN : Hid (namesL s = []) := hid (by unfold namesL; rw [kind0 (by omega)]; rfl)
    rw [k]
    clear k hk
    go_enter Tryz.func33, Tryz.ntmps33
    go_wp2
    go_ret
    exact ⟨_, rfl, by rw [HN.out]; exact ss_nil _ _ _ _ _, (HB _).out⟩
  · have HN : Hid (namesL s = []) := hid (by unfold namesL; rw [kind0 (by omega)]; rfl)
    rw [k]
    clear k hk
    go_enter Tryz.func33, Tryz.ntmps33
    go_wp2
    go_ret
    exact ⟨_, rfl, by rw [HN.out]; exact ss_nil _ _ _ _ _, (HB _).out⟩
  · have HN : Hid (namesL s = [aMsg]) := hid (by unfold namesL; rw [kind5 k]; rfl)
    rw [k]
    clear k hk
    go_enter Tryz.func33, Tryz.ntmps33
    go_wp2
    go_ret
    exact ⟨_, rfl, by rw [HN.out]; exact ss_one _ _, (HB _).out⟩
  · have HN : Hid (namesL s = [aTicks]) := hid (by unfold namesL; rw [kind6 (by omega)]; rfl)
    rw [k]
    clear k hk
    go_enter Tryz.func33, Tryz.ntmps33
    go_wp2
    go_ret
    exact ⟨_, rfl, by rw [HN.out]; exact ss_one _ _, (HB _).out⟩
  · have HN : Hid (namesL s = [aVar, aTo]) := hid (by unfold namesL; rw [kind7 k]; rfl)
    rw [k]
    clear k hk
    go_enter Tryz.func33, Tryz.ntmps33
    go_wp2
    go_ret
    exact ⟨_, rfl, by rw [HN.out]; exact ss_two _ _ _, (HB _).out⟩
  · have HN : Hid (namesL s = [aTicks]) := hid (by unfold namesL; rw [kind6 (by omega)]; rfl)
    rw [k]
    clear k hk
    go_enter Tryz.func33, Tryz.ntmps33
    go_wp2
    go_ret
    exact ⟨_, rfl, by rw [HN.out]; exact ss_one _ _, (HB _).out⟩
end Tf
end Go.Proofs.YtahkpgffoiaeiaaGreatDoor
