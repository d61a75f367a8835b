/- Laid together: PxH, PoB. -/
import Derived.Test.YtahkpgffoiaeiaaGreatDoorJProcOf24
import Derived.Test.YtahkpgffoiaeiaaGreatDoorJProcOf16
import Derived.Test.YtahkpgffoiaeiaaGreatDoorJProcOf22
import Derived.Deep.RegionHeld3
/- The program's ParseExpr. -/
namespace Go.Proofs.YtahkpgffoiaeiaaGreatDoor
open Go.RowKit
set_option linter.unusedVariables false
namespace Ex
open Nd (NodeD)
theorem Rd.c1 {w : World} {R : Nat} {rest : List UInt8} {ns : List NodeD} (h : Rd w R rest ns) : ∃ a cap, w.cell? ⟨R, 0, none⟩ = some (.string (str rest)) ∧ w.cell? ⟨R, 1, none⟩ = some (.slice a ns.length cap) ∧ w.ownsRow (R + 1) 143 4 (.slice a ns.length cap) ns.length (nvals ns) := by
  obtain ⟨v, h1, h2⟩ := h
  obtain ⟨a, cap, rfl⟩ := own4_slice h2
  exact ⟨a, cap, by simp [World.cell?, h1], by simp [World.cell?, h1], h2⟩
theorem own_mono2 {w : World} {B B' n : Nat} {e : TypeId} {sz : Nat} {v : Value} {xs : List Value} (h : w.ownsRow B e sz v n xs) (hb : B' ≤ B) : w.ownsRow B' e sz v n xs := by
  refine ⟨h.1, ?_⟩
  rcases h.2 with h | ⟨g, cap, cur, rfl, h1, r⟩
  · exact .inl h
  · exact .inr ⟨g, cap, cur, rfl, Nat.le_trans hb h1, r⟩
theorem own_set2 {w : World} {B n b c sz : Nat} {e : TypeId} {v u : Value} {xs : List Value} (h : w.ownsRow B e sz v n xs) (hb : b < B) : (w.setCell ⟨b, c, none⟩ u).ownsRow B e sz v n xs := ownsRow_setCell_below h (a := ⟨b, c, none⟩) hb u
theorem ret_expr {c d : Int} {v : Value} (h : c = d) : Ending.returned (.agg #[.int .i64 c, v]) = .returned (.agg #[.int .i64 d, v]) := by rw [h]
set_option maxRecDepth 100000 in
set_option maxHeartbeats 4000000 in
theorem implParse (l : List UInt8) (w : World) (hl : l.length ≤ 1048576) : Calls Tryz.prog 104 #[.string (str l)] w (PxPost l w) := by
  have e1 : (str l).size = l.length := str_size l
  have hb0 : Below w.heap.size w (w.alloc (.cells #[.int .i64 0, .slice none 0 0] 186)) := (Below.refl _ w).alloc (Nat.le_refl _) _
  unfold PxPost
  by_cases h200 : 200 < l.length
  · have q : (200 : Int) < (l.length : Int) := by omega
    have HV := hid (p_many h200)
    have HB := hid hb0
    clear h200 hb0
    generalize str l = sl at *
    go_enter Tryz.func104, Tryz.ntmps104
    go_wp2
    refine bodyPost_ret (v := .agg #[.int .i64 2, .slice none 0 0]) (by simp [results, Tryz.results104, go_sem]) rfl ⟨⟨_, ret_expr HV.out.1.symm, ?_⟩, (Below.refl _ w).alloc (Nat.le_refl _) _⟩
    rw [HV.out.2]
    exact World.ownsRow_nil _ _ _ 4
  have q : ¬ (200 : Int) < (l.length : Int) := by omega
  have hb1 : Below w.heap.size w ((w.alloc (.cells #[.int .i64 0, .slice none 0 0] 186)).alloc (.cells #[.string (str l), .slice none 0 0] 205)) := hb0.alloc (by simp) _
  have HRD : Hid (Rd ((w.alloc (.cells #[.int .i64 0, .slice none 0 0] 186)).alloc (.cells #[.string (str l), .slice none 0 0] 205)) (w.heap.size + 1) l []) := hid ⟨.slice none 0 0, by have h := World.alloc_heap_new (w.alloc (.cells #[.int .i64 0, .slice none 0 0] 186)) (.cells #[.string (str l), .slice none 0 0] 205); rw [World.size_alloc] at h; exact h, World.ownsRow_nil _ _ _ 4⟩
  have HT := hid (implTake (w.heap.size + 1) (l.length + 1) l [] _ (by omega) (by omega) (by simp) HRD.out)
  have r0 : ((w.alloc (.cells #[.int .i64 0, .slice none 0 0] 186)).alloc (.cells #[.string (str l), .slice none 0 0] 205)).cell? ⟨w.heap.size, 0, none⟩ = some (.int .i64 0) := by go_simp
  have r1 : ((w.alloc (.cells #[.int .i64 0, .slice none 0 0] 186)).alloc (.cells #[.string (str l), .slice none 0 0] 205)).cell? ⟨w.heap.size, 1, none⟩ = some (.slice none 0 0) := by go_simp
  have f0 : ((w.alloc (.cells #[.int .i64 0, .slice none 0 0] 186)).alloc (.cells #[.string (str l), .slice none 0 0] 205)).frozen? ⟨w.heap.size, 0, none⟩ = false := by go_simp
  have f1 : ((w.alloc (.cells #[.int .i64 0, .slice none 0 0] 186)).alloc (.cells #[.string (str l), .slice none 0 0] 205)).frozen? ⟨w.heap.size, 1, none⟩ = false := by go_simp
  have HB := hid hb1
  have R0 := hid r0
  have R1 := hid r1
  have F0 := hid f0
  have F1 := hid f1
  have HNO := hid (p_none h200)
  have HSO := hid (fun (t : Tm) => p_some (t := t) h200)
  clear r0 r1 f0 f1 HRD hb0 hb1 h200
  go_enter Tryz.func104, Tryz.ntmps104
  go_wp2_with fail
  refine HT.out.mono ?_
  rintro e w1 ⟨hp, hb1⟩
  have c0 := kept_cell hb1 (b := w.heap.size) (by omega) R0.out
  have c1 := kept_cell hb1 (b := w.heap.size) (by omega) R1.out
  have d0 := kept_free hb1 (b := w.heap.size) (by omega) F0.out
  have d1 := kept_free hb1 (b := w.heap.size) (by omega) F1.out
  have HB1 : Hid (Below w.heap.size w w1) := hid (HB.out.trans (hb1.mono (by omega)))
  clear HT R0 R1 F0 F1 hb1 HB
  rcases hp with ⟨t, r, hg, hok, hsz, rfl, hr⟩ | ⟨hno, x, rfl⟩
  · obtain ⟨a, cap, m0, m1, ho⟩ := hr.c1
    have HO := hid ho
    simp only [List.length_nil, List.nil_append, Nat.zero_add] at m1 hsz ho
    cases hrr : r with
    | nil =>
      rw [hrr] at m0 hg
      have HP := hid (HSO.out t (parse_some hg ⟨hok, hsz⟩))
      have hemp : (str []).toList.isEmpty = true := by rw [str_toList]; rfl
      have HOO : Hid (((w1.setCell ⟨w.heap.size, 0, none⟩ (.int .i64 0)).setCell ⟨w.heap.size, 1, none⟩ (.slice a (t.nodes 0).length cap)).ownsRow (w.heap.size + 1) 143 4 (.slice a (t.nodes 0).length cap) (t.nodes 0).length (nvals (t.nodes 0))) := hid (own_set2 (own_set2 (own_mono2 ho (by omega)) (by omega)) (by omega))
      clear hg hok hsz hr ho HO hrr
      generalize str [] = se at *
      go_wp2
      refine bodyPost_ret (v := .agg #[.int .i64 0, .slice a (t.nodes 0).length cap]) (by simp [results, Tryz.results104, go_sem, c0, c1]) rfl ⟨⟨_, ret_expr HP.out.1.symm, ?_⟩, setB (setB HB1.out (Nat.le_refl _) _) (Nat.le_refl _) _⟩
      rw [HP.out.2]
      exact HOO.out
    | cons b rs =>
      rw [hrr] at m0 hg
      have HP := hid (HNO.out (parse_none (fun t' ht' => by rw [hg] at ht'; cases ht')))
      have hemp : (str (b :: rs)).toList.isEmpty = false := by rw [str_toList]; rfl
      clear hg hok hsz hr ho HO hrr
      generalize str (b :: rs) = se at *
      go_wp2
      refine bodyPost_ret (v := .agg #[.int .i64 5, .slice none 0 0]) (by simp [results, Tryz.results104, go_sem, c0, c1]) rfl ⟨⟨_, ret_expr HP.out.1.symm, ?_⟩, setB (setB HB1.out (Nat.le_refl _) _) (Nat.le_refl _) _⟩
      rw [HP.out.2]
      exact World.ownsRow_nil _ _ _ 4
  · have HP := hid (HNO.out (parse_none (fun t' ht' h => hno t' [] ht' (by simpa using h))))
    clear hno
    go_wp2
    refine bodyPost_ret (v := .agg #[.int .i64 5, .slice none 0 0]) (by simp [results, Tryz.results104, go_sem, c0, c1]) rfl ⟨⟨_, ret_expr HP.out.1.symm, ?_⟩, setB (setB HB1.out (Nat.le_refl _) _) (Nat.le_refl _) _⟩
    rw [HP.out.2]
    exact World.ownsRow_nil _ _ _ 4
end Ex
end Go.Proofs.YtahkpgffoiaeiaaGreatDoor
/- An attr is put into a step: the program's takeAttr. -/
namespace Go.Proofs.YtahkpgffoiaeiaaGreatDoor
open Go.RowKit
set_option linter.unusedVariables false
namespace Po
open Ex (hid str nvals PxPost implParse pCode pNodes parseF)
open Nd (NodeD)
open St (StepD)
open Tr (AttrD)
open Tf (aIf aName aTo implClone)
open Nst (own)
/-- What reading an expression answers. -/
def ExprPost (x : ByteArray) (w : World) (e : Ending) (w' : World) : Prop :=
  (∃ (a : Option Addr) (n c : Nat) (ok : Bool), e = .returned (.tuple #[.slice a n c, .bool ok]) ∧ ((ok = false ∧ exprF x = none) ∨ (ok = true ∧ ∃ l, exprF x = some l ∧ w'.ownsRow w.heap.size 143 4 (.slice a n c) l.length (nvals l)))) ∧ Below w.heap.size w w'
theorem code_of {x : ByteArray} (h : x.size ≤ 40) : (exprF x = none ∧ pCode x.data.toList = 5) ∨ (exprF x = some (pNodes x.data.toList) ∧ pCode x.data.toList = 0) := by
  have hl : ¬ 200 < x.data.toList.length := by have : x.data.toList.length = x.size := by simp
                                               omega
  unfold exprF pCode pNodes
  rw [if_neg hl, if_neg hl]
  cases parseF x.data.toList with
  | none => exact .inl ⟨rfl, rfl⟩
  | some t => exact .inr ⟨rfl, rfl⟩
set_option maxRecDepth 100000 in
set_option maxHeartbeats 2000000 in
theorem implExpr (x : ByteArray) (w : World) (h : x.size ≤ 40) : Calls Tryz.prog 88 #[.string x] w (ExprPost x w) := by
  have hl : x.data.toList.length = x.size := by simp
  have HP := hid (implParse x.data.toList w (by omega))
  rw [str_of] at HP
  unfold ExprPost
  go_enter Tryz.func88, Tryz.ntmps88
  go_wp2_with fail
  refine HP.out.mono ?_
  rintro e w2 ⟨⟨u, rfl, hu⟩, hb2⟩
  have HU := hid hu
  obtain ⟨a, c, rfl⟩ := Nst.own_slice hu
  clear hu HP
  have HB2 : ∀ o, Hid (Below w.heap.size w (w2.alloc o)) := fun o => hid (hb2.alloc hb2.size _)
  have HO2 : ∀ o, Hid ((w2.alloc o).ownsRow w.heap.size 143 4 (.slice a (pNodes x.data.toList).length c) (pNodes x.data.toList).length (nvals (pNodes x.data.toList))) := fun o => hid (Nst.own_kept (Nst.own_mono HU.out (by omega)) (fun b ho => ((Below.refl w2.heap.size w2).alloc (Nat.le_refl _) o).block b (Nst.own_lt HU.out ho).2))
  rcases code_of h with ⟨h1, h2⟩ | ⟨h1, h2⟩
  · have HX := hid h1
    rw [h2]
    clear h1 h2
    go_wp2
    go_region
    go_wp2
    go_ret2
    exact ⟨⟨_, _, _, false, rfl, .inl ⟨rfl, HX.out⟩⟩, (HB2 _).out.drew⟩
  · have HX := hid h1
    rw [h2]
    clear h1 h2
    go_wp2
    go_region
    go_wp2
    go_ret2
    exact ⟨⟨_, _, _, true, rfl, .inr ⟨rfl, _, HX.out, (HO2 _).out⟩⟩, (HB2 _).out.drew⟩
set_option maxRecDepth 100000 in
set_option maxHeartbeats 4000000 in
theorem takeName (S : Nat) (s : StepD) (a : AttrD) (vc ve : Value) (w : World) (h : a.value.size ≤ 40) (hs : SV w S s vc ve) (hn : eqN a.name aName = true) :
    Calls Tryz.prog 69 #[.pointer (some ⟨S, 0, none⟩), .agg #[.string a.name, .string a.value]] w (PutPost S s a w) := by
  have k0 : (a.name.toList == [110, 97, 109, 101]) = true := by rw [← aName_l]; exact hn
  have HP : Hid (putA s a = some { s with name := a.value }) := hid (by unfold putA; rw [if_pos hn])
  have HS := hid hs
  have hlt := hs.lt
  have HC : ∀ w', Hid (Calls Tryz.prog 87 #[.string a.value] w' fun e w'' => e = .returned (.string a.value) ∧ Below w'.heap.size w' w'') := fun w' => hid (implClone a.value w' (by omega))
  have HA : ∀ o, Hid (Below w.heap.size w (w.alloc o)) := fun o => hid ((Below.refl _ w).alloc (Nat.le_refl _) _)
  clear hs hn
  generalize a.value = x at *
  generalize a.name = y at *
  unfold PutPost
  go_enter Tryz.func69, Tryz.ntmps69
  go_wp2_with fail
  refine (HC _).out.mono ?_
  rintro e w2 ⟨rfl, hb2⟩
  have HB2 : Hid (Below w.heap.size w w2) := hid (Below.trans (HA _).out (hb2.mono (HA _).out.size))
  have HS2 := hid (HS.out.keep HB2.out)
  have c2 := blk_cell HS2.out.blk 2
  have f2 := blk_free HS2.out.blk 2
  have l2 := HS2.out.lt
  replace c2 : w2.cell? ⟨S, 2, none⟩ = some (.string s.name) := c2
  clear hb2
  go_wp2
  go_ret
  exact ⟨.inr ⟨_, _, _, HP.out, rfl, HS2.out.name x⟩, (Off.of_below HB2.out).trans (Off.set S 2 _ w2)⟩
set_option maxRecDepth 100000 in
set_option maxHeartbeats 4000000 in
theorem takeIf (S : Nat) (s : StepD) (a : AttrD) (vc ve : Value) (w : World) (h : a.value.size ≤ 40) (hs : SV w S s vc ve) (hn0 : eqN a.name aName = false) (hn : eqN a.name aIf = true) :
    Calls Tryz.prog 69 #[.pointer (some ⟨S, 0, none⟩), .agg #[.string a.name, .string a.value]] w (PutPost S s a w) := by
  have k0 : (a.name.toList == [110, 97, 109, 101]) = false := by rw [← aName_l]; exact hn0
  have k1 : (a.name.toList == [105, 102]) = true := by rw [← aIf_l]; exact hn
  have HP : Hid (putA s a = (exprF a.value).map fun l => { s with cond := l }) := hid (by unfold putA; rw [if_neg (by rw [hn0]; simp), if_pos hn])
  have HS := hid hs
  have hlt := hs.lt
  have HC : ∀ w', Hid (Calls Tryz.prog 88 #[.string a.value] w' (ExprPost a.value w')) := fun w' => hid (implExpr a.value w' h)
  have HA : ∀ o, Hid (Below w.heap.size w (w.alloc o)) := fun o => hid ((Below.refl _ w).alloc (Nat.le_refl _) _)
  clear hs hn hn0
  generalize a.value = x at *
  generalize a.name = y at *
  unfold PutPost
  go_enter Tryz.func69, Tryz.ntmps69
  go_wp2_with fail
  refine (HC _).out.mono ?_
  rintro e w2 ⟨⟨au, nu, cu, ok, rfl, hd⟩, hb2⟩
  have HB2 : Hid (Below w.heap.size w w2) := hid (Below.trans (HA _).out (hb2.mono (HA _).out.size))
  have HS2 := hid (HS.out.keep HB2.out)
  have c2 := blk_cell HS2.out.blk 4
  have f2 := blk_free HS2.out.blk 4
  have l2 := HS2.out.lt
  replace c2 : w2.cell? ⟨S, 4, none⟩ = some vc := c2
  have HD : Hid ((ok = false ∧ exprF x = none) ∨ (ok = true ∧ ∃ l, exprF x = some l ∧ w2.ownsRow w.heap.size 143 4 (.slice au nu cu) l.length (nvals l))) := hid (by
    rcases hd with hd | ⟨h1, l, h2, h3⟩
    · exact .inl hd
    · exact .inr ⟨h1, l, h2, Nst.own_mono h3 (HA _).out.size⟩)
  clear hb2 hd
  go_wp2
  go_ret
  refine ⟨?_, (Off.of_below HB2.out).trans (Off.set S 4 _ w2)⟩
  rcases HD.out with ⟨rfl, h1⟩ | ⟨rfl, l, h1, h2⟩
  · exact .inl ⟨by rw [HP.out, h1]; rfl, rfl, HS2.out.six.set4 _ _ _⟩
  · exact .inr ⟨_, _, _, by rw [HP.out, h1]; rfl, rfl, HS.out.putCond HB2.out h2⟩
set_option maxRecDepth 100000 in
set_option maxHeartbeats 4000000 in
theorem takeTo (S : Nat) (s : StepD) (a : AttrD) (vc ve : Value) (w : World) (h : a.value.size ≤ 40) (hs : SV w S s vc ve) (hn0 : eqN a.name aName = false) (hn1 : eqN a.name aIf = false) (hn : eqN a.name aTo = true) :
    Calls Tryz.prog 69 #[.pointer (some ⟨S, 0, none⟩), .agg #[.string a.name, .string a.value]] w (PutPost S s a w) := by
  have k0 : (a.name.toList == [110, 97, 109, 101]) = false := by rw [← aName_l]; exact hn0
  have k1 : (a.name.toList == [105, 102]) = false := by rw [← aIf_l]; exact hn1
  have k2 : (a.name.toList == [116, 111]) = true := by rw [← aTo_l]; exact hn
  have HP : Hid (putA s a = (exprF a.value).map fun l => { s with expr := l }) := hid (by unfold putA; rw [if_neg (by rw [hn0]; simp), if_neg (by rw [hn1]; simp), if_pos hn])
  have HS := hid hs
  have hlt := hs.lt
  have HC : ∀ w', Hid (Calls Tryz.prog 88 #[.string a.value] w' (ExprPost a.value w')) := fun w' => hid (implExpr a.value w' h)
  have HA : ∀ o, Hid (Below w.heap.size w (w.alloc o)) := fun o => hid ((Below.refl _ w).alloc (Nat.le_refl _) _)
  clear hs hn hn0 hn1
  generalize a.value = x at *
  generalize a.name = y at *
  unfold PutPost
  go_enter Tryz.func69, Tryz.ntmps69
  go_wp2_with fail
  refine (HC _).out.mono ?_
  rintro e w2 ⟨⟨au, nu, cu, ok, rfl, hd⟩, hb2⟩
  have HB2 : Hid (Below w.heap.size w w2) := hid (Below.trans (HA _).out (hb2.mono (HA _).out.size))
  have HS2 := hid (HS.out.keep HB2.out)
  have c2 := blk_cell HS2.out.blk 5
  have f2 := blk_free HS2.out.blk 5
  have l2 := HS2.out.lt
  replace c2 : w2.cell? ⟨S, 5, none⟩ = some ve := c2
  have HD : Hid ((ok = false ∧ exprF x = none) ∨ (ok = true ∧ ∃ l, exprF x = some l ∧ w2.ownsRow w.heap.size 143 4 (.slice au nu cu) l.length (nvals l))) := hid (by
    rcases hd with hd | ⟨h1, l, h2, h3⟩
    · exact .inl hd
    · exact .inr ⟨h1, l, h2, Nst.own_mono h3 (HA _).out.size⟩)
  clear hb2 hd
  go_wp2
  go_ret
  refine ⟨?_, (Off.of_below HB2.out).trans (Off.set S 5 _ w2)⟩
  rcases HD.out with ⟨rfl, h1⟩ | ⟨rfl, l, h1, h2⟩
  · exact .inl ⟨by rw [HP.out, h1]; rfl, rfl, HS2.out.six.set5 _ _ _⟩
  · exact .inr ⟨_, _, _, by rw [HP.out, h1]; rfl, rfl, HS.out.putExpr HB2.out h2⟩
set_option maxRecDepth 100000 in
set_option maxHeartbeats 4000000 in
theorem takeNum (S : Nat) (s : StepD) (a : AttrD) (vc ve : Value) (w : World) (h : a.value.size ≤ 40) (hs : SV w S s vc ve) (hn0 : eqN a.name aName = false) (hn1 : eqN a.name aIf = false) (hn2 : eqN a.name aTo = false) :
    Calls Tryz.prog 69 #[.pointer (some ⟨S, 0, none⟩), .agg #[.string a.name, .string a.value]] w (PutPost S s a w) := by
  have k0 : (a.name.toList == [110, 97, 109, 101]) = false := by rw [← aName_l]; exact hn0
  have k1 : (a.name.toList == [105, 102]) = false := by rw [← aIf_l]; exact hn1
  have k2 : (a.name.toList == [116, 111]) = false := by rw [← aTo_l]; exact hn2
  have HP : Hid (putA s a = (numF a.value.data.toList).map fun n => { s with arg := n }) := hid (by unfold putA; rw [if_neg (by rw [hn0]; simp), if_neg (by rw [hn1]; simp), if_neg (by rw [hn2]; simp)])
  have HS := hid hs
  have hlt := hs.lt
  have hl : a.value.data.toList.length = a.value.size := by simp
  have HC : ∀ w', Hid (Calls Tryz.prog 89 #[.string a.value, .int .i64 2] w' fun e w'' => numAns a.value.data.toList e ∧ w'' = w') := fun w' => hid (by
    have := implNum a.value.data.toList w' (by omega)
    rw [str_of] at this
    exact this)
  have HA : ∀ o, Hid (Below w.heap.size w (w.alloc o)) := fun o => hid ((Below.refl _ w).alloc (Nat.le_refl _) _)
  clear hs hn0 hn1 hn2 hl
  generalize a.value = x at *
  generalize a.name = y at *
  unfold PutPost
  go_enter Tryz.func69, Tryz.ntmps69
  go_wp2_with fail
  refine (HC _).out.mono ?_
  rintro e w2 ⟨hd, rfl⟩
  have HB2 := HA (.cells #[.string y, .string x] 73)
  have HS2 := hid (HS.out.keep HB2.out)
  have c2 := blk_cell HS2.out.blk 3
  have f2 := blk_free HS2.out.blk 3
  have l2 := HS2.out.lt
  generalize w.alloc (.cells #[.string y, .string x] 73) = w2 at *
  replace c2 : w2.cell? ⟨S, 3, none⟩ = some (.int .i64 s.arg) := c2
  rcases hd with ⟨h1, rfl⟩ | ⟨n, h1, rfl⟩
  · have HX := hid h1
    clear h1
    go_wp2
    go_ret
    exact ⟨.inl ⟨by rw [HP.out, HX.out]; rfl, rfl, HS2.out.six.set3 _⟩, (Off.of_below HB2.out).trans (Off.set S 3 _ w2)⟩
  · have HX := hid h1
    clear h1
    go_wp2
    go_ret
    exact ⟨.inr ⟨_, _, _, by rw [HP.out, HX.out]; rfl, rfl, HS2.out.arg n⟩, (Off.of_below HB2.out).trans (Off.set S 3 _ w2)⟩
theorem implTake (S : Nat) (s : StepD) (a : AttrD) (vc ve : Value) (w : World) (h : a.value.size ≤ 40) (hs : SV w S s vc ve) :
    Calls Tryz.prog 69 #[.pointer (some ⟨S, 0, none⟩), .agg #[.string a.name, .string a.value]] w (PutPost S s a w) := by
  cases h0 : eqN a.name aName
  · cases h1 : eqN a.name aIf
    · cases h2 : eqN a.name aTo
      · exact takeNum S s a vc ve w h hs h0 h1 h2
      · exact takeTo S s a vc ve w h hs h0 h1 h2
    · exact takeIf S s a vc ve w h hs h0 h1
  · exact takeName S s a vc ve w h hs h0
end Po
end Go.Proofs.YtahkpgffoiaeiaaGreatDoor
