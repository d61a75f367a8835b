/- The program's text of a process. Condition: the tables of rules and of powers of ten lie as their initialisers lay them. -/
import Derived.Test.YtnbmpofmieagfaaGreatDoorJFnProcs38
import Derived.Test.YtnbmpofmieagfaaGreatDoorBuild
import Derived.Test.YtnbmpofmieagfaaGreatDoorShelf
namespace Go.Proofs.YtnbmpofmieagfaaGreatDoor
open Go.RowKit
set_option linter.unusedVariables false
set_option linter.unusedSimpArgs false
namespace Pf
open Ex (hid inR eFault str str_app str_size textOf add_str Tab ret_text)
open Nd (NodeD)
open St (StepD)
theorem stepWords (B : Nat) (s : StepD) (vc ve : Value) (w : World) (hF : Fine s) (hle : s.cond.length ≤ 1048576 ∧ s.expr.length ≤ 1048576) (hc : Nd.At w B vc s.cond) (he : Nd.At w B ve s.expr) (hr : Rul w) (ht : Tab w) :
    Calls Tryz.prog 30 #[.agg #[.int .i64 s.kind, .int .i64 s.parent, .string s.name, .int .i64 s.arg, vc, ve]] w (WPost s w) := by
  by_cases hq : s.cond.length = 0
  · exact words0 B s vc ve w hF hq hle hc he hr ht
  · exact words1 B s vc ve w hF (by omega) hle hc he hr ht
theorem bld_below {B b : Nat} {bs : List Value} {w w' : World} (h : Lib.IsBuilderF 61 5 B b bs w) (hb : Below w.heap.size w w') : Lib.IsBuilderF 61 5 B b bs w' := by
  have f : ∀ p, Lib.BuilderAtF 61 5 B b p bs w → Lib.BuilderAtF 61 5 B b p bs w' := by
    rintro p ⟨hB, v, hh, hown, hne⟩
    refine ⟨hB, v, (hb.block b (Array.getElem?_eq_some_iff.1 hh).1).trans hh, ?_, hne⟩
    obtain ⟨hl, ho⟩ := hown
    refine ⟨hl, ?_⟩
    rcases ho with ho | ⟨g, cap, cur, fz, rfl, h1, h2, r⟩
    · exact .inl ho
    · exact .inr ⟨g, cap, cur, fz, rfl, h1, (hb.block g (Array.getElem?_eq_some_iff.1 h2).1).trans h2, r⟩
  exact h.elim (fun x => .inl (f _ x)) (fun x => .inr (f _ x))
theorem bld_lt {B b : Nat} {bs : List Value} {w : World} (h : Lib.IsBuilderF 61 5 B b bs w) : b < w.heap.size := by
  rcases h with ⟨_, v, hh, _⟩ | ⟨_, v, hh, _⟩ <;> exact (Array.getElem?_eq_some_iff.1 hh).1
theorem bld_new (w : World) : Lib.IsBuilderF 61 5 w.heap.size w.heap.size (Lib.byteCells []) (w.alloc (.cells #[.pointer none, .slice none 0 0] 61)) :=
  Lib.IsBuilderF.of (Lib.fresh_isBuilder 61 5 w)
theorem pad_comm : ∀ d, padL d ++ [32, 32] = [32, 32] ++ padL d
  | 0 => rfl
  | d + 1 => by
    have h := pad_comm d
    rw [padL, List.append_assoc, ← List.append_assoc [32, 32], ← h, List.append_assoc]
theorem repeat_pad : ∀ d, Lib.repeatL [32, 32] d = padL d
  | 0 => rfl
  | d + 1 => by rw [Lib.repeatL, repeat_pad d, padL, pad_comm]
theorem owns_cells {w : World} {B n : Nat} {e : TypeId} {u : Value} {xs : List ByteArray} (h : w.ownsRow B e 1 u n (strVals xs)) (hn : 0 < n) :
    ∃ bk cap, u = .slice (some ⟨bk, 0, none⟩) n cap ∧ bk < w.heap.size ∧ n ≤ cap ∧ ∀ (j : Nat) x, xs[j]? = some x → w.cell? ⟨bk, 0 + j, none⟩ = some (.string x) := by
  obtain ⟨hl, ⟨_, h0⟩ | ⟨g, cap, cur, rfl, _, hh, hle, _, hs, hcur⟩⟩ := h
  · omega
  · refine ⟨g, cap, rfl, (Array.getElem?_eq_some_iff.1 hh).1, hle, fun j x hx => ?_⟩
    rw [cell_of_row w g (0 + j) cur e (0, 0) hh]
    have e1 : (strVals xs)[j]? = some (.string x) := by simp [strVals, hx]
    rw [← hcur, List.getElem?_take] at e1
    split at e1
    · rw [Nat.zero_add]; simpa using e1
    · cases e1
set_option maxRecDepth 100000 in
set_option maxHeartbeats 1000000 in
theorem stepsAbove (j d : Nat) (kv : Value) (w : World) (hkv : ∃ a n c, kv = .slice a n c) (hd : d ≤ 24) :
    Calls Tryz.prog 28 #[.agg #[.int .i64 (j : Int), .int .i64 ((d + 1 : Nat) : Int), kv]] w fun e w' => e = .returned (.int .i64 (d : Int)) ∧ Below w.heap.size w w' := by
  obtain ⟨a, n, c, rfl⟩ := hkv
  go_enter Tryz.func28, Tryz.ntmps28
  go_wp2
  go_ret
  exact ⟨by simp, (Below.refl _ w).alloc (Nat.le_refl _) _⟩
theorem rep (d : Nat) (w : World) (hd : d ≤ 24) : Calls Tryz.prog 27 #[.string ⟨#[32, 32]⟩, .int .i64 (d : Int)] w fun e w' => e = .returned (.string (str (padL d))) ∧ Below w.heap.size w w' :=
  (Tryz.strings_Repeat ⟨#[32, 32]⟩ d w (by omega) (by show 2 * d ≤ _; omega)).mono fun e w' ⟨he, hb⟩ => ⟨by rw [he]; show Ending.returned (.string ⟨(Lib.repeatL [32, 32] d).toArray⟩) = _; rw [repeat_pad]; rfl, hb⟩
theorem kept_row {b : Nat} {S : Nat} {C : Array Value} {T : TypeId} {w w' : World} (h : Lib.OthersKept 5 (some b) w w') (hh : w.heap[S]? = some (.cells C T (0, 0))) (hne : S ≠ b) (hT : T ≠ 5) : w'.heap[S]? = some (.cells C T (0, 0)) :=
  h S _ hh (by simpa using hne) (by intro c fz e; cases e; exact hT rfl)

set_option maxRecDepth 100000 in
set_option maxHeartbeats 8000000 in
theorem implProcText (ss : List StepD) (v : Value) (w : World) (hsm : St.Small 1048576 ss) (ha : St.At w 0 v ss) (hr : Rul w) (ht : Tab w) :
    Calls Tryz.prog 10 #[v] w fun e w' => e = .returned (.agg #[.int .i64 (pFault ss), .string (procT ss)]) ∧ Below w.heap.size w w' := by
  obtain ⟨a, cap, rfl⟩ := ha.slice
  have hb0 : Below w.heap.size w (w.alloc (.cells #[.int .i64 0, .string ⟨#[]⟩] 36)) := (Below.refl _ w).alloc (Nat.le_refl _) _
  have HF := hid (procSteps ss _ _ hsm (ha.below hb0) (hr.below hb0 hr.lt))
  have HR := hid hr
  have HT := hid ht
  have HSM := hid hsm
  have hgl := hr.lt
  clear ha hsm hr ht
  go_enter Tryz.func10, Tryz.ntmps10
  go_wp2_with fail
  refine HF.out.mono ?_
  rintro e w1 ⟨⟨u, rfl, hu1, hu2⟩, hb1⟩
  have B1 : Below w.heap.size w w1 := hb0.trans (hb1.mono (by simp))
  simp only [World.size_alloc] at hb1
  have l1 : w.heap.size < w1.heap.size := by have := hb1.size; simp at this; omega
  have r0 := kept_cell hb1 (b := w.heap.size) (o := 0) (v := .int .i64 0) (by omega) (by go_simp)
  have r1 := kept_cell hb1 (b := w.heap.size) (o := 1) (v := .string ⟨#[]⟩) (by omega) (by go_simp)
  have f0 := kept_free hb1 (b := w.heap.size) (o := 0) (by omega) (by go_simp)
  have f1 := kept_free hb1 (b := w.heap.size) (o := 1) (by omega) (by go_simp)
  clear HF
  by_cases hf : pFault ss = 0
  · have b1 : (pFault ss != 0) = false := by simp [hf]
    have HP := hid (of_p hf)
    have hl : ss.length ≤ 24 := by have := HP.out.1; omega
    have HV := hid (procT_ok hf)
    have hPA := hu2 hf
    obtain ⟨gu, cu, rfl, _⟩ := hPA
    have HPA := hid (hu2 hf)
    have HFZ := hid hf
    have HBN := hid (bld_new w1)
    have HBA : Hid (Below w1.heap.size w1 (w1.alloc (.cells #[.pointer none, .slice none 0 0] 61))) := hid ((Below.refl _ w1).alloc (Nat.le_refl _) _)
    clear hf hu1 hu2
    go_wp2
    go_loopw [7, 19] (fun _ x wr => ∃ k : Nat, x = .int .i64 k ∧ k ≤ ss.length ∧ Hid (Lib.IsBuilderF 61 5 w1.heap.size w1.heap.size (Lib.byteCells (procL ss k)) wr) ∧ Hid (Below w1.heap.size w1 wr)) (fun _ x _ => ss.length - (intOf x).toNat)
    case atStart => exact ⟨0, rfl, Nat.zero_le _, HBN, HBA⟩
    case round =>
      obtain ⟨k, rfl, hk, HI, HBR⟩ := hrel
      have hz := HBR.out.size
      by_cases hlt : k < ss.length
      · have hP := HPA.out
        obtain ⟨g', cap', e', hg, hc⟩ := hP
        cases e'
        obtain ⟨kv, vc, ve, d0, d1, d2, d3, d4, d5, d6, d7, d8, hpc⟩ := hc k hlt
        replace d0 := kept_cell HBR.out hg d0
        replace d1 := kept_cell HBR.out hg d1
        replace d2 := kept_cell HBR.out hg d2
        replace d3 := kept_cell HBR.out hg d3
        replace d4 := kept_cell HBR.out hg d4
        replace d5 := kept_cell HBR.out hg d5
        replace d6 := kept_cell HBR.out hg d6
        replace d7 := kept_cell HBR.out hg d7
        replace d8 := kept_cell HBR.out hg d8
        obtain ⟨ak, ck, rfl⟩ := hpc.kids.slice
        have HCC := hid hpc.cond
        have HEE := hid hpc.expr
        obtain ⟨ac, cc, rfl⟩ := hpc.cond.slice
        obtain ⟨ae, ce, rfl⟩ := hpc.expr.slice
        have q1 : (k : Int) < (ss.length : Int) := by omega
        have dw := (walked (ss := ss) (i := k + 1) hlt (first_to HP.out.2.1 hlt)).deep
        obtain ⟨d, hd⟩ : ∃ d, (path ss (k + 1)).length = d + 1 := ⟨_, rfl⟩
        have HN : Hid (procL ss (k + 1) = procL ss k ++ padL d ++ lineL ss[k] ++ [10]) := hid (by rw [procL, hd, PJ_eq hlt]; rfl)
        rw [hd] at d1 dw
        have zp := proc_len HFZ.out k hk
        have zl := line_len (fine hlt HFZ.out)
        have HFN := hid (fine hlt HFZ.out)
        have hle := HSM.out.at hlt
        have hle2 : ss[k].cond.length ≤ 1048576 ∧ ss[k].expr.length ≤ 1048576 := by have := hle.2.1; have := hle.2.2; omega
        clear hd hc hpc hle
        have A0 : Below wr.heap.size wr (wr.alloc (.cells #[.int .i64 (k : Int), .int .i64 ((d + 1 : Nat) : Int), .slice ak (kidsL ss k).length ck, .int .i64 ss[k].kind, .int .i64 ss[k].parent, .string ss[k].name, .int .i64 ss[k].arg, .slice ac ss[k].cond.length cc, .slice ae ss[k].expr.length ce] 55)) := (Below.refl _ wr).alloc (Nat.le_refl _) _
        have H0 := hid (heap_alloc_new wr (.cells #[.int .i64 (k : Int), .int .i64 ((d + 1 : Nat) : Int), .slice ak (kidsL ss k).length ck, .int .i64 ss[k].kind, .int .i64 ss[k].parent, .string ss[k].name, .int .i64 ss[k].arg, .slice ac ss[k].cond.length cc, .slice ae ss[k].expr.length ce] 55))
        have hbl := bld_lt HI.out
        have HSA := hid (fun w' => stepsAbove k d (.slice ak (kidsL ss k).length ck) w' ⟨_, _, _, rfl⟩ (by omega))
        have HRP := hid (fun w' => rep d w' (by omega))
        go_wp2_with fail
        refine (HSA.out _).mono ?_
        rintro e w2 ⟨rfl, hb2⟩
        go_wp2_with fail
        refine (HRP.out _).mono ?_
        rintro e w3 ⟨rfl, hb3⟩
        have C3 := (A0.trans (hb2.mono A0.size)).trans (hb3.mono (Nat.le_trans A0.size hb2.size))
        have I3 := hid (bld_below HI.out C3)
        have H3 := (hb3.block _ (Nat.lt_of_lt_of_le (by simp) hb2.size)).trans ((hb2.block _ (by simp)).trans H0.out)
        clear HI H0
        have l3 : wr.heap.size < w3.heap.size := by have := C3.size; have := hb2.size; have := hb3.size; simp at *; omega
        go_wp2_with fail
        refine (Bld.writeString _ _ _ _ _ I3.out (by rw [Lib.byteCells_length, str_size, pad_len]; omega) (by omega)).mono ?_
        rintro e w4 ⟨rfl, hB4, hb4, ho4⟩
        have I4 : Hid (Lib.IsBuilderF 61 5 w1.heap.size w1.heap.size (Lib.byteCells (procL ss k ++ padL d)) w4) := hid (by rw [Lib.byteCells_append]; exact .inr hB4)
        have H4 := kept_row ho4 H3 (by omega) (by decide)
        have D4 := (HBR.out.trans (C3.mono hz)).trans hb4
        have l4 : w1.heap.size ≤ w4.heap.size := D4.size
        have x3 : w4.cell? ⟨wr.heap.size, 3, none⟩ = some (.int .i64 ss[k].kind) := cell_of_row w4 _ 3 _ _ _ H4
        have x4 : w4.cell? ⟨wr.heap.size, 4, none⟩ = some (.int .i64 ss[k].parent) := cell_of_row w4 _ 4 _ _ _ H4
        have x5 : w4.cell? ⟨wr.heap.size, 5, none⟩ = some (.string ss[k].name) := cell_of_row w4 _ 5 _ _ _ H4
        have x6 : w4.cell? ⟨wr.heap.size, 6, none⟩ = some (.int .i64 ss[k].arg) := cell_of_row w4 _ 6 _ _ _ H4
        have x7 : w4.cell? ⟨wr.heap.size, 7, none⟩ = some (.slice ac ss[k].cond.length cc) := cell_of_row w4 _ 7 _ _ _ H4
        have x8 : w4.cell? ⟨wr.heap.size, 8, none⟩ = some (.slice ae ss[k].expr.length ce) := cell_of_row w4 _ 8 _ _ _ H4
        have B4 := B1.trans (D4.mono B1.size)
        have HSW := hid (stepWords 0 ss[k] _ _ w4 HFN.out hle2 (HCC.out.below D4) (HEE.out.below D4) (HR.out.below B4 hgl) (HT.out.below B4))
        clear hB4 ho4 H3 H4 I3 d0 d1 d2 d3 d4 d5 d6 d7 d8 hb2 hb3 C3 A0
        go_wp2_with fail
        refine HSW.out.mono ?_
        rintro e w5 ⟨⟨xs, u, rfl, hx0, hx8, hown, hj⟩, hb5⟩
        obtain ⟨bk, cp, rfl, hbk, hcp, hcs⟩ := owns_cells hown hx0
        have I5 := bld_below I4.out hb5
        have hj' : Lib.join (xs.map (·.data.toList)) (ByteArray.mk #[32]).data.toList = lineL ss[k] := hj
        have HJN := hid (Tryz.strings_Join bk 0 cp xs ⟨#[32]⟩ w5 hcs hbk (by omega) hcp (by rw [hj']; omega))
        rw [hj'] at HJN
        have HZ5 := hid (hb5.mono l4)
        clear hown hcs hj hj' x3 x4 x5 x6 x7 x8 HSW
        generalize hln : xs.length = ln at *
        go_wp2_with fail
        refine HJN.out.mono ?_
        rintro e w6 ⟨rfl, hb6⟩
        have I6 := hid (bld_below I5 hb6)
        have D6 := (D4.trans HZ5.out).trans (hb6.mono (D4.trans HZ5.out).size)
        have l6 := D6.size
        go_wp2_with fail
        refine (Bld.writeString _ _ _ (str (lineL ss[k])) _ I6.out (by rw [Lib.byteCells_length, str_size, List.length_append, pad_len]; omega) l6).mono ?_
        rintro e w7 ⟨rfl, hB7, hb7, _⟩
        have I7 : Hid (Lib.IsBuilderF 61 5 w1.heap.size w1.heap.size (Lib.byteCells (procL ss k ++ padL d ++ lineL ss[k])) w7) := hid (by rw [Lib.byteCells_append]; exact .inr hB7)
        have D7 := D6.trans hb7
        have l7 := D7.size
        go_wp2_with fail
        refine (Bld.writeByte _ _ _ _ _ I7.out (by rw [Lib.byteCells_length, List.length_append, List.length_append, pad_len]; omega) l7).mono ?_
        rintro e w8 ⟨rfl, hB8, hb8, _⟩
        have I8 : Hid (Lib.IsBuilderF 61 5 w1.heap.size w1.heap.size (Lib.byteCells (procL ss (k + 1))) w8) := hid (by rw [HN.out, Lib.byteCells_append]; exact .inr hB8)
        have D8 := hid (D7.trans hb8)
        go_wp2
        exact ⟨⟨k + 1, by simp, by omega, I8, D8⟩, by simp [intOf]; omega⟩
      · have hkn : k = ss.length := by omega
        have HK := hid hkn
        have q1 : ¬ (k : Int) < (ss.length : Int) := by omega
        clear hkn
        go_wp2_with fail
        refine (Tryz.Builder_String_any_k _ _ _ _ HI.out hz).mono ?_
        rintro e w2 ⟨rfl, _, hb2, _⟩
        have D2 := HBR.out.trans hb2
        have s0 := kept_cell D2 l1 r0
        have s1 := kept_cell D2 l1 r1
        have t0 := kept_free D2 l1 f0
        have t1 := kept_free D2 l1 f1
        have l2 : w.heap.size < w2.heap.size := Nat.lt_of_lt_of_le l1 D2.size
        have B2 := B1.trans (D2.mono B1.size)
        clear r0 r1 f0 f1
        go_wp2
        exact bodyPost_ret (v := .agg #[.int .i64 0, .string (str (procL ss k))]) (by simp [results, Tryz.results10, go_sem, s0, s1, str]) rfl ⟨ret_text HFZ.out.symm (by rw [HV.out, HK.out]), setB (setB B2 (Nat.le_refl _) _) (Nat.le_refl _) _⟩
  · have b1 : (pFault ss != 0) = true := bne_iff_ne.2 hf
    have HV := hid (procT_bad hf)
    obtain rfl := hu1 hf
    clear hf hu1 hu2
    go_wp2
    exact bodyPost_ret (v := .agg #[.int .i64 (pFault ss), .string ⟨#[]⟩]) (by simp [results, Tryz.results10, go_sem, r0, r1]) rfl ⟨ret_text rfl (by rw [HV.out]; rfl), setB (setB B1 (Nat.le_refl _) _) (Nat.le_refl _) _⟩
end Pf
end Go.Proofs.YtnbmpofmieagfaaGreatDoor
