/- The program's text of a graph. Condition: the tables of rules of nodes and of powers of ten lie as their initialisers lay them. -/
import Derived.Test.YtepfkfhbkbkepaaDoorGtB
import Derived.Test.YtepfkfhbkbkepaaDoorBuild
namespace Go.Proofs.YtepfkfhbkbkepaaDoor
open Go.RowKit
set_option linter.unusedVariables false
set_option linter.unusedSimpArgs false
namespace Gt
open Ex (hid inR)
open Nd (NodeD)
open Gr
open Rc
open Go.Lib (decDigits)
theorem ret_text {c d : Int} {a b : ByteArray} (h : c = d) (h2 : a = b) : Ending.returned (.agg #[.int .i64 c, .string a]) = .returned (.agg #[.int .i64 d, .string b]) := by rw [h, h2]
theorem bld_below {B b : Nat} {bs : List Value} {w w' : World} (h : Lib.IsBuilderF 57 5 B b bs w) (hb : Below w.heap.size w w') : Lib.IsBuilderF 57 5 B b bs w' := by
  have f : ∀ p, Lib.BuilderAtF 57 5 B b p bs w → Lib.BuilderAtF 57 5 B b p bs w' := by
    rintro p ⟨hB, v, hh, hown, hne⟩
    refine ⟨hB, v, (hb.block b (Array.getElem?_eq_some_iff.1 hh).1).trans hh, ?_, hne⟩
    obtain ⟨hl, ho⟩ := hown
    refine ⟨hl, ?_⟩
    rcases ho with ho | ⟨g, cap, cur, fz, rfl, h1, h2, r⟩
    · exact .inl ho
    · exact .inr ⟨g, cap, cur, fz, rfl, h1, (hb.block g (Array.getElem?_eq_some_iff.1 h2).1).trans h2, r⟩
  exact h.elim (fun x => .inl (f _ x)) (fun x => .inr (f _ x))
theorem bld_new (w : World) : Lib.IsBuilderF 57 5 w.heap.size w.heap.size (Lib.byteCells []) (w.alloc (.cells #[.pointer none, .slice none 0 0] 57)) :=
  Lib.IsBuilderF.of (Lib.fresh_isBuilder 57 5 w)
theorem owns_cells {w : World} {B n : Nat} {e : TypeId} {u : Value} {xs : List ByteArray} (h : w.ownsRow B e 1 u n (strVals xs)) (hn : 0 < n) :
    ∃ bk cap, u = .slice (some ⟨bk, 0, none⟩) n cap ∧ bk < w.heap.size ∧ n ≤ cap ∧ ∀ (j : Nat) x, xs[j]? = some x → w.cell? ⟨bk, 0 + j, none⟩ = some (.string x) := by
  obtain ⟨hl, ⟨_, h0⟩ | ⟨g, cap, cur, rfl, _, hh, hle, _, hs, hcur⟩⟩ := h
  · omega
  · refine ⟨g, cap, rfl, (Array.getElem?_eq_some_iff.1 hh).1, hle, fun j x hx => ?_⟩
    rw [cell_of_row w g (0 + j) cur e (0, 0) hh]
    have e1 : (strVals xs)[j]? = some (.string x) := by simp [strVals, hx]
    rw [← hcur, List.getElem?_take] at e1
    split at e1
    · rw [Nat.zero_add]; simpa using e1
    · cases e1
set_option maxRecDepth 100000 in
set_option maxHeartbeats 8000000 in
theorem implGraphText (B : Nat) (g : GraphD) (vn vf : Value) (w : World) (hsm : Small 1048576 g) (ha : At w B vn vf g) (hr : NRul w) (ht : Tab w) :
    Calls Tryd.prog 7 #[.agg #[vn, vf]] w fun e w' => e = .returned (.agg #[.int .i64 (gFault g), .string (textG g)]) ∧ Below w.heap.size w w' := by
  obtain ⟨an, cn, rfl⟩ := ha.nodes.slice
  obtain ⟨af, cf, rfl⟩ := ha.flows.slice
  have hx : Below w.heap.size w ((w.alloc (.cells #[.slice an g.nodes.length cn, .slice af g.flows.length cf] 33)).alloc (.cells #[.int .i64 0, .string ⟨#[]⟩] 28)) := ((Below.refl _ w).alloc (Nat.le_refl _) _).alloc (by simp) _
  have HX := hid hx
  have HA := hid (ha.below hx)
  have HR := hid (hr.below hx hr.lt)
  have HT := hid (ht.below hx)
  have HF := hid (implFault B g _ _ _ hsm HA.out HR.out)
  have h0 : ((w.alloc (.cells #[.slice an g.nodes.length cn, .slice af g.flows.length cf] 33)).alloc (.cells #[.int .i64 0, .string ⟨#[]⟩] 28)).cell? ⟨w.heap.size, 0, none⟩ = some (.slice an g.nodes.length cn) := by go_simp
  have h1 : ((w.alloc (.cells #[.slice an g.nodes.length cn, .slice af g.flows.length cf] 33)).alloc (.cells #[.int .i64 0, .string ⟨#[]⟩] 28)).cell? ⟨w.heap.size, 1, none⟩ = some (.slice af g.flows.length cf) := by go_simp
  have hz : ((w.alloc (.cells #[.slice an g.nodes.length cn, .slice af g.flows.length cf] 33)).alloc (.cells #[.int .i64 0, .string ⟨#[]⟩] 28)).heap.size = w.heap.size + 1 + 1 := by simp
  have hrb : ((w.alloc (.cells #[.slice an g.nodes.length cn, .slice af g.flows.length cf] 33)).alloc (.cells #[.int .i64 0, .string ⟨#[]⟩] 28)).heap[w.heap.size + 1]? = some (.cells #[.int .i64 0, .string ⟨#[]⟩] 28) := by
    have := heap_alloc_new (w.alloc (.cells #[.slice an g.nodes.length cn, .slice af g.flows.length cf] 33)) (.cells #[.int .i64 0, .string ⟨#[]⟩] 28)
    rw [World.size_alloc] at this
    exact this
  clear ha hr ht hsm hx
  go_enter Tryd.func7, Tryd.ntmps7
  go_wp2_with fail
  generalize (w.alloc (.cells #[.slice an g.nodes.length cn, .slice af g.flows.length cf] 33)).alloc (.cells #[.int .i64 0, .string ⟨#[]⟩] 28) = w0 at *
  refine HF.out.mono ?_
  rintro e w1 ⟨rfl, hb1⟩
  have hz1 := hb1.size
  have l1 : w.heap.size + 1 < w1.heap.size := by omega
  have l0 : w.heap.size < w1.heap.size := by omega
  have HRB := hid ((hb1.block (w.heap.size + 1) (by omega)).trans hrb)
  have HB1 := hid (HX.out.trans (hb1.mono (by omega)))
  have k0 := old_cell hb1 (by omega) h0
  have k1 := old_cell hb1 (by omega) h1
  have HA1 := hid (HA.out.below hb1)
  have HR1 := hid (HR.out.below hb1 HR.out.lt)
  have HT1 := hid (HT.out.below hb1)
  clear hb1 h0 h1 hz hz1 hrb HA HR HT HF HX
  by_cases hf : gFault g = 0
  · have HFZ := hid hf
    have HFI := hid (fine hf)
    have HV := hid (text_ok hf)
    have hnl := HFI.out.nlen
    have hfl := HFI.out.flen
    rw [hf]
    have HBN := hid (bld_new w1)
    have HBA : Hid (Below w1.heap.size w1 (w1.alloc (.cells #[.pointer none, .slice none 0 0] 57))) := hid ((Below.refl _ w1).alloc (Nat.le_refl _) _)
    clear hf
    go_wp2
    go_loopw [5, 15] (fun _ x wr => ∃ k : Nat, x = .int .i64 k ∧ k ≤ g.nodes.length ∧ Hid (Lib.IsBuilderF 57 5 w1.heap.size w1.heap.size (Lib.byteCells (textL g k)) wr) ∧ Hid (Below w1.heap.size w1 wr)) (fun _ x _ => g.nodes.length - (intOf x).toNat)
    case atStart => exact ⟨0, rfl, Nat.zero_le _, HBN, HBA⟩
    case round =>
      obtain ⟨k, rfl, hk, HI, HBR⟩ := hrel
      have c0 := old_cell HBR.out l0 k0
      have c1 := old_cell HBR.out l0 k1
      have zr := Nat.lt_of_lt_of_le l0 HBR.out.size
      by_cases hlt : k < g.nodes.length
      · have q1 : (k : Int) < (g.nodes.length : Int) := by omega
        have HN : Hid (textL g (k + 1) = textL g k ++ lineG g k ++ [10]) := hid rfl
        have zp := text_len HFI.out k hk
        have zl := line_len HFI.out hlt
        have HSW := hid (nodeWords B g k _ _ wr hlt HFI.out (HA1.out.below HBR.out) (HR1.out.below HBR.out HR1.out.lt) (HT1.out.below HBR.out))
        have HJ := hid (ws_join g k g.flows.length)
        have hwl : 0 < (WS g k g.flows.length).length ∧ (WS g k g.flows.length).length ≤ 200 := by rw [ws_len]; have := outs_le g.flows (k : Int) g.flows.length; omega
        go_wp2_with fail
        refine HSW.out.mono ?_
        rintro e w5 ⟨⟨u, rfl, hown⟩, hb5⟩
        obtain ⟨bk, cp, rfl, hbk, hcp, hcs⟩ := owns_cells hown hwl.1
        have I5 := hid (bld_below HI.out hb5)
        have D5 := hid (HBR.out.trans (hb5.mono HBR.out.size))
        have hj' : Lib.join ((WS g k g.flows.length).map (·.data.toList)) (ByteArray.mk #[32]).data.toList = lineG g k := HJ.out
        have HJN := hid (Tryd.strings_Join bk 0 cp (WS g k g.flows.length) ⟨#[32]⟩ w5 hcs hbk (by omega) hcp (by rw [hj']; omega))
        rw [hj'] at HJN
        clear hown hcs hj' HSW HJ hb5 HI c0 c1
        generalize hln : (WS g k g.flows.length).length = ln at *
        clear hln
        go_wp2_with fail
        refine HJN.out.mono ?_
        rintro e w6 ⟨rfl, hb6⟩
        have I6 := hid (bld_below I5.out hb6)
        have D6 := hid (D5.out.trans (hb6.mono D5.out.size))
        clear hb6 I5 D5 HJN
        go_wp2_with fail
        refine (Bld.writeString _ _ _ (str (lineG g k)) _ I6.out (by rw [Lib.byteCells_length, str_size]; omega) D6.out.size).mono ?_
        rintro e w7 ⟨rfl, hB7, hb7, _⟩
        have I7 : Hid (Lib.IsBuilderF 57 5 w1.heap.size w1.heap.size (Lib.byteCells (textL g k ++ lineG g k)) w7) := hid (by rw [Lib.byteCells_append]; exact .inr hB7)
        have D7 := hid (D6.out.trans hb7)
        clear hB7 hb7 I6 D6
        go_wp2_with fail
        refine (Bld.writeByte _ _ _ _ _ I7.out (by rw [Lib.byteCells_length, List.length_append]; omega) D7.out.size).mono ?_
        rintro e w8 ⟨rfl, hB8, hb8, _⟩
        have I8 : Hid (Lib.IsBuilderF 57 5 w1.heap.size w1.heap.size (Lib.byteCells (textL g (k + 1))) w8) := hid (by rw [HN.out, Lib.byteCells_append]; exact .inr hB8)
        have D8 := hid (D7.out.trans hb8)
        clear hB8 hb8
        go_wp2
        exact ⟨⟨k + 1, by simp, by omega, I8, D8⟩, by simp [intOf]; omega⟩
      · have HK := hid (show k = g.nodes.length by omega)
        have q1 : ¬ (k : Int) < (g.nodes.length : Int) := by omega
        go_wp2_with fail
        refine (Tryd.Builder_String_any_k _ _ _ _ HI.out HBR.out.size).mono ?_
        rintro e w2 ⟨rfl, _, hb2, _⟩
        have D2 := HBR.out.trans hb2
        have hr2 := (D2.block (w.heap.size + 1) l1).trans HRB.out
        have r0 : w2.cell? ⟨w.heap.size + 1, 0, none⟩ = some (.int .i64 0) := by simp [World.cell?, hr2]
        have r1 : w2.cell? ⟨w.heap.size + 1, 1, none⟩ = some (.string ⟨#[]⟩) := by simp [World.cell?, hr2]
        have f0 : w2.frozen? ⟨w.heap.size + 1, 0, none⟩ = false := by simp [World.frozen?, hr2]
        have f1 : w2.frozen? ⟨w.heap.size + 1, 1, none⟩ = false := by simp [World.frozen?, hr2]
        have l2 : w.heap.size + 1 < w2.heap.size := Nat.lt_of_lt_of_le l1 D2.size
        have B2 := hid (HB1.out.trans (D2.mono HB1.out.size))
        clear hr2 D2 hb2
        go_wp2
        exact bodyPost_ret (v := .agg #[.int .i64 0, .string (str (textL g k))]) (by simp [results, Tryd.results7, go_sem, r0, r1, str]) rfl ⟨ret_text HFZ.out.symm (by rw [HV.out, HK.out]), setB (setB B2.out (Nat.le_succ _) _) (Nat.le_succ _) _⟩
  · have HV := hid (text_bad hf)
    have b1 : (gFault g != 0) = true := bne_iff_ne.2 hf
    have hr1 := HRB.out
    have r0 : w1.cell? ⟨w.heap.size + 1, 0, none⟩ = some (.int .i64 0) := by simp [World.cell?, hr1]
    have r1 : w1.cell? ⟨w.heap.size + 1, 1, none⟩ = some (.string ⟨#[]⟩) := by simp [World.cell?, hr1]
    have f0 : w1.frozen? ⟨w.heap.size + 1, 0, none⟩ = false := by simp [World.frozen?, hr1]
    have f1 : w1.frozen? ⟨w.heap.size + 1, 1, none⟩ = false := by simp [World.frozen?, hr1]
    clear hf hr1
    go_wp2
    exact bodyPost_ret (v := .agg #[.int .i64 (gFault g), .string ⟨#[]⟩]) (by simp [results, Tryd.results7, go_sem, r0, r1]) rfl ⟨ret_text rfl (by rw [HV.out]; rfl), setB (setB HB1.out (Nat.le_succ _) _) (Nat.le_succ _) _⟩
end Gt
end Go.Proofs.YtepfkfhbkbkepaaDoor
