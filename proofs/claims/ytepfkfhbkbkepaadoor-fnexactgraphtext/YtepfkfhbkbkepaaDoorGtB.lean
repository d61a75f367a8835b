/- The words of a node, as the program writes them. Condition: the tables of rules of nodes and of powers of ten lie as their initialisers lay them. -/
import Derived.Test.YtepfkfhbkbkepaaDoorGtA
import Derived.Test.YtepfkfhbkbkepaaDoorGiC
namespace Go.Proofs.YtepfkfhbkbkepaaDoor
open Go.RowKit
set_option linter.unusedVariables false
namespace Gt
open Ex (hid inR)
open Nd (NodeD)
open Gn (GNodeD)
open Fl (FlowD)
open Gr
open Rc
open Go.Lib (decDigits)
def strVals (xs : List ByteArray) : List Value := xs.map .string
def WS (g : GraphD) (i n : Nat) : List ByteArray := str (decDigits i ++ [58]) :: str (wordG (NJ g.nodes i).kind) :: (outsN g.flows (i : Int) n).map fun d => str (decDigits d)
theorem ws_len (g : GraphD) (i n : Nat) : (WS g i n).length = 2 + (outsN g.flows (i : Int) n).length := by simp [WS]; omega
theorem ws_join (g : GraphD) (i n : Nat) : Lib.join ((WS g i n).map (·.data.toList)) [32] = headG g i ++ numsL (outsN g.flows (i : Int) n) := by
  rw [← line_words]
  congr 1
  simp [WS, str_data]
theorem ws_next {g : GraphD} {i n : Nat} (h : (FJ g.flows n).src = (i : Int)) : WS g i (n + 1) = WS g i n ++ [str (decDigits (FJ g.flows n).dst.toNat)] := by
  unfold WS
  rw [outs_succ, if_pos h]
  simp
theorem ws_same {g : GraphD} {i n : Nat} (h : (FJ g.flows n).src ≠ (i : Int)) : WS g i (n + 1) = WS g i n := by
  unfold WS
  rw [outs_succ, if_neg h, List.append_nil]
theorem infoStr : (Tryd.prog.info? 9).map (fun i => (i.zero, i.size, i.bytes)) = some (some (.string ⟨#[]⟩), 1, 16) := by kernel_rfl
theorem rule_word {k : Int} (h : inR k 1 13 = true) : (nruleD k).word = str (wordG k) := by
  rcases nkinds h with e | e | e | e | e | e | e | e | e | e | e | e | e <;> subst e <;> rfl
theorem own_below {w w' : World} {B n sz : Nat} {e : TypeId} {v : Value} {xs : List Value} (h : w.ownsRow B e sz v n xs) (hb : Below w.heap.size w w') : w'.ownsRow B e sz v n xs := by
  refine ⟨h.1, ?_⟩
  rcases h.2 with hn | ⟨g, cap, cur, rfl, hbg, hg, rest⟩
  · exact .inl hn
  · exact .inr ⟨g, cap, cur, rfl, hbg, (hb.block g (Array.getElem?_eq_some_iff.1 hg).1).trans hg, rest⟩
theorem owns_weak2 {w : World} {B B' : Nat} {e : TypeId} {size n : Nat} {v : Value} {xs : List Value} (h : w.ownsRow B e size v n xs) (hb : B' ≤ B) : w.ownsRow B' e size v n xs := by
  refine ⟨h.1, ?_⟩
  rcases h.2 with hn | ⟨g, cap, cur, hv, hbg, rest⟩
  · exact .inl hn
  · exact .inr ⟨g, cap, cur, hv, by omega, rest⟩
theorem row_two (w : World) (x y : Value) (e : TypeId) : (w.alloc (.cells #[x, y] e)).ownsRow w.heap.size e 1 (.slice (some ⟨w.heap.size, 0, none⟩) 2 2) 2 [x, y] :=
  ⟨by simp, .inr ⟨w.heap.size, 2, #[x, y], rfl, Nat.le_refl _, heap_alloc_new w _, Nat.le_refl _, by unfold maxLen; omega, rfl, rfl⟩⟩
def WPost (g : GraphD) (i : Nat) (w : World) : Ending → World → Prop := fun e w' => (∃ u, e = .returned u ∧ w'.ownsRow w.heap.size 9 1 u (WS g i g.flows.length).length (strVals (WS g i g.flows.length))) ∧ Below w.heap.size w w'
set_option maxRecDepth 100000 in
set_option maxHeartbeats 8000000 in
theorem nodeWords (B : Nat) (g : GraphD) (i : Nat) (vn vf : Value) (w : World) (hi : i < g.nodes.length) (hf : Fine g) (ha : At w B vn vf g) (hr : NRul w) (ht : Tab w) :
    Calls Tryd.prog 20 #[.agg #[vn, vf], .int .i64 (i : Int)] w (WPost g i w) := by
  obtain ⟨an, cn, rfl⟩ := ha.nodes.slice
  obtain ⟨af, cf, rfl⟩ := ha.flows.slice
  have hB : Below w.heap.size w (w.alloc (.cells #[.slice an g.nodes.length cn, .slice af g.flows.length cf] 33)) := (Below.refl _ w).alloc (Nat.le_refl _) _
  have HB := hid hB
  have hA := ha.below hB
  have HA := hid hA
  have hk := hf.kind i hi
  rw [NJ_eq hi] at hk
  have HRU := hid (nruleOk g.nodes[i].kind _ hk (hr.below hB hr.lt))
  have HT := hid (ht.below hB)
  have HW : Hid ((nruleD g.nodes[i].kind).word = str (wordG (NJ g.nodes i).kind)) := hid (by rw [NJ_eq hi]; exact rule_word hk)
  have HFI := hid hf
  have hnl := hf.nlen
  have hfl := hf.flen
  obtain ⟨gn, on, vx, rfl, hg, p0, p1, p2, p3, p4, hvx⟩ := hA.nodes.at hi
  have q0 : (i : Int) < (g.nodes.length : Int) := by omega
  have z0 : w.heap.size < (w.alloc (.cells #[.slice (some ⟨gn, on, none⟩) g.nodes.length cn, .slice af g.flows.length cf] 33)).heap.size := by simp
  have d0 : (w.alloc (.cells #[.slice (some ⟨gn, on, none⟩) g.nodes.length cn, .slice af g.flows.length cf] 33)).cell? ⟨w.heap.size, 0, none⟩ = some (.slice (some ⟨gn, on, none⟩) g.nodes.length cn) := by go_simp
  have d1 : (w.alloc (.cells #[.slice (some ⟨gn, on, none⟩) g.nodes.length cn, .slice af g.flows.length cf] 33)).cell? ⟨w.heap.size, 1, none⟩ = some (.slice af g.flows.length cf) := by go_simp
  clear ha hr ht hf hA hvx p1 p2 p3 p4 hk hB
  unfold WPost
  go_enter Tryd.func20, Tryd.ntmps20
  go_wp2_with fail
  generalize w.alloc (.cells #[.slice (some ⟨gn, on, none⟩) g.nodes.length cn, .slice af g.flows.length cf] 33) = w0 at *
  refine HRU.out.mono ?_
  rintro e w1 ⟨rfl, hb1⟩
  rw [nvals]
  generalize nruleD g.nodes[i].kind = r at *
  have HBx : Hid (Below w1.heap.size w1 (w1.alloc (.cells #[.string r.word, .bool r.hs, .bool r.hn, .bool r.ha, .bool r.he] 86))) := hid ((Below.refl _ w1).alloc (Nat.le_refl _) _)
  have HB1 := hid ((HB.out.trans (hb1.mono HB.out.size)).trans (HBx.out.mono (HB.out.trans (hb1.mono HB.out.size)).size))
  have HA1 := hid ((HA.out.below hb1).below HBx.out)
  have HT1 := hid ((HT.out.below hb1).below HBx.out)
  have d1' := old_cell HBx.out (Nat.lt_of_lt_of_le z0 hb1.size) (old_cell hb1 z0 d1)
  have z1 : w.heap.size < (w1.alloc (.cells #[.string r.word, .bool r.hs, .bool r.hn, .bool r.ha, .bool r.he] 86)).heap.size := by have := hb1.size; simp; omega
  have z2 : w1.heap.size < (w1.alloc (.cells #[.string r.word, .bool r.hs, .bool r.hn, .bool r.ha, .bool r.he] 86)).heap.size := by simp
  have rw1 : (w1.alloc (.cells #[.string r.word, .bool r.hs, .bool r.hn, .bool r.ha, .bool r.he] 86)).cell? ⟨w1.heap.size, 0, none⟩ = some (.string (str (wordG (NJ g.nodes i).kind))) := by rw [← HW.out]; go_simp
  have zd : (str (decDigits i)).size ≤ 2 := by rw [str_size]; exact dig2 (by omega)
  have y1 : (ByteArray.mk #[58]).size = 1 := rfl
  have ad1 := add_str (str (decDigits i)) (ByteArray.mk #[58]) (by omega)
  have HI : Hid (∀ w', Tab w' → Calls Tryd.prog 37 #[.int .i64 (i : Int), .int .i64 10] w' fun e w'' => e = .returned (.string (str (decDigits i))) ∧ Below w'.heap.size w' w'') := hid (fun w' ht => (implInt (i : Int) w' (by omega) (by omega) ht).mono (fun e w'' h => by simpa using h))
  have HS0 : Hid (str (decDigits i) ++ ByteArray.mk #[58] = str (decDigits i ++ [58])) := hid (str_app _ [58])
  clear hb1 d0 d1 z0 HRU HB HA HT p0 hg zd y1
  go_wp2_with fail
  generalize w1.alloc (.cells #[.string r.word, .bool r.hs, .bool r.hn, .bool r.ha, .bool r.he] 86) = w2 at *
  have rwd : w2.drew.cell? ⟨w1.heap.size, 0, none⟩ = some (.string (str (wordG (NJ g.nodes i).kind))) := rw1
  have hxd : Below w2.heap.size w2 w2.drew := (Below.refl _ w2).drew
  have HTd : Hid (Tab w2.drew) := hid (HT1.out.below hxd)
  have z3 : w1.heap.size < w2.drew.heap.size := z2
  generalize hww : str (wordG (NJ g.nodes i).kind) = ww at *
  have HWW := hid hww
  clear hww
  go_region_held3 (fun wx => wx.cell? ⟨w1.heap.size, 0, none⟩ = some (.string ww)) (first | assumption | (simp [*]; done) | exact (World.cell?_alloc_lt _ _ _ j2).trans j1) (first | (go_at_call 37; refine (HI.out _ HTd.out).mono ?_; rintro e w3 ⟨rfl, hb3⟩; have j1 := kept_cell (b := w1.heap.size) (o := 0) (v := .string ww) hb3 (by assumption) (by assumption); have hX3 := hxd.trans hb3; have j2 := Nat.lt_of_lt_of_le z3 hb3.size; clear hb3))
  have HXa : Hid (Below w3.heap.size w3 (w3.alloc (.cells #[.string (str (decDigits i) ++ ByteArray.mk #[58]), .string ww] 9))) := hid ((Below.refl _ w3).alloc (Nat.le_refl _) _)
  have L3 := hid hX3.size
  have HX4 := hid (hX3.trans (HXa.out.mono hX3.size))
  have HO4 : Hid ((w3.alloc (.cells #[.string (str (decDigits i) ++ ByteArray.mk #[58]), .string ww] 9)).ownsRow w3.heap.size 9 1 (.slice (some ⟨w3.heap.size, 0, none⟩) 2 2) (WS g i 0).length (strVals (WS g i 0))) := hid (by
    have e : strVals (WS g i 0) = [.string (str (decDigits i) ++ ByteArray.mk #[58]), .string ww] := by
      rw [HS0.out, ← HWW.out]; rfl
    rw [e]
    exact row_two w3 _ _ _)
  clear hX3 hxd HTd z3 j1 j2 rwd rw1 HXa ad1 HBx HI
  have L4 : Hid (w3.heap.size ≤ (w3.alloc (.cells #[.string (str (decDigits i) ++ ByteArray.mk #[58]), .string ww] 9)).heap.size) := hid (by simp)
  have d4 := old_cell HX4.out z1 d1'
  have z4 := Nat.lt_of_lt_of_le z1 HX4.out.size
  generalize w3.alloc (.cells #[.string (str (decDigits i) ++ ByteArray.mk #[58]), .string ww] 9) = w4 at *
  obtain ⟨j0, hj, hy0, hy1, hy2⟩ := inf_parts infoStr
  go_wp2_with fail
  obtain ⟨wq, hwq⟩ : ∃ wq, wq = w4 := ⟨_, rfl⟩
  subst hwq
  clear d4 z4
  go_loopw [7, 9, 29] (fun o _ x wr => ∃ n : Nat, x = .int .i64 n ∧ n ≤ g.flows.length ∧ (∃ a5 c5, o = .slice a5 (WS g i n).length c5) ∧ Hid (wr.ownsRow w3.heap.size 9 1 o (WS g i n).length (strVals (WS g i n))) ∧ Hid (Below w3.heap.size wq wr)) (fun _ _ x _ => g.flows.length - (intOf x).toNat)
  case atStart => exact ⟨0, rfl, Nat.zero_le _, ⟨_, _, rfl⟩, HO4, hid (Below.refl _ _)⟩
  case round =>
    obtain ⟨n, rfl, hn, ⟨a5, c5, rfl⟩, HO, HBR⟩ := hrel
    have hX := HX4.out.trans (HBR.out.mono L3.out)
    have HXR := hid hX
    have LR := hid (Nat.le_trans L4.out HBR.out.size)
    have k1 := old_cell hX z1 d1'
    have zr := Nat.lt_of_lt_of_le z1 hX.size
    by_cases hlt : n < g.flows.length
    · obtain ⟨gf, of, vx2, rfl, hg, c0, c1, c2, hvx⟩ := (HA1.out.flows.below hX).at hlt
      have q1 : (n : Int) < (g.flows.length : Int) := by omega
      have hwl : (WS g i n).length ≤ 200 := by rw [ws_len]; have := outs_le g.flows (i : Int) n; omega
      have hds := HFI.out.dst n hlt
      have HN1 := hid (fun h => ws_next (g := g) (i := i) (n := n) h)
      have HN2 := hid (fun h => ws_same (g := g) (i := i) (n := n) h)
      rw [FJ_eq hlt] at hds HN1 HN2
      obtain ⟨ax, cx, rfl⟩ := hvx.slice
      have HTR := hid (HT1.out.below hX)
      clear hvx hX
      have HI2 : Hid (∀ w', Tab w' → Calls Tryd.prog 37 #[.int .i64 g.flows[n].dst, .int .i64 10] w' fun e w'' => e = .returned (.string (str (decDigits g.flows[n].dst.toNat))) ∧ Below w'.heap.size w' w'') := hid (fun w' ht => implInt _ w' hds.1 (by omega) ht)
      by_cases he : g.flows[n].src = (i : Int)
      · have HK := hid (HN1.out he)
        have b1 : (g.flows[n].src == (i : Int)) = true := beq_iff_eq.2 he
        clear he HN1 HN2
        generalize str (decDigits g.flows[n].dst.toNat) = ds at *
        generalize WS g i n = ks at *
        go_wp2_with fail
        refine (HI2.out _ (HTR.out.below ?hB)).mono ?_
        case hB => exact (Below.refl _ wr).alloc (Nat.le_refl _) _
        rintro e w5 ⟨rfl, hb5⟩
        have hX5 : Below wr.heap.size wr w5 := ((Below.refl _ wr).alloc (Nat.le_refl _) _).trans (hb5.mono (by simp))
        have HB5 := hid (HBR.out.trans (hX5.mono LR.out))
        have hown := own_below HO.out hX5
        have l5 := Nat.le_trans LR.out hX5.size
        have HL5 := hid l5
        clear hb5 hX5 c0 c1 c2
        go_wp2_with (at_builtin; go_must (refine wpList_append_own _ rfl _ _ 42 rfl w3.heap.size 9 j0 (.string ⟨#[]⟩) 1 16 Tryd.underlying42 hj hy0 hy1 hy2 rfl (by decide) _ _ _ rfl (hown.alloc _) ⟨w5.heap.size, 0, none⟩ 1 1 [.string ds] rfl rfl (cell_one_new _ _ _) (by simp [Value.oneCell']) (by unfold maxLen; omega) (by omega) (by simp; omega) ?_); intro v' w6 hown' hgrow _; obtain ⟨g9, c9, rfl⟩ := ownsRow_succ hown')
        have hB6 : Below w3.heap.size wq w6 := (HB5.out.alloc HL5.out _).grown hgrow (by have := HL5.out; simp; omega) (fun b e => (row_lt hown e).1)
        refine ⟨⟨n + 1, by simp, by omega, ⟨some ⟨g9, 0, none⟩, c9, by rw [HK.out, List.length_append]; rfl⟩, hid ?_, hid hB6⟩, by simp [intOf]; omega⟩
        rw [HK.out]
        simpa [strVals] using hown'
      · have HK := hid (HN2.out he)
        have b1 : (g.flows[n].src == (i : Int)) = false := beq_eq_false_iff_ne.2 he
        clear he HN1 HN2
        have hX5 : Below wr.heap.size wr (wr.alloc (.cells #[.int .i64 g.flows[n].src, .int .i64 g.flows[n].dst, .slice ax g.flows[n].cond.length cx] 50)) := (Below.refl _ wr).alloc (Nat.le_refl _) _
        have HB5 := hid (HBR.out.trans (hX5.mono LR.out))
        have HO5 := hid (own_below HO.out hX5)
        clear hX5
        go_wp2
        refine ⟨⟨n + 1, by simp, by omega, ⟨a5, c5, by rw [HK.out]⟩, hid ?_, HB5⟩, by simp [intOf]; omega⟩
        rw [HK.out]
        exact HO5.out
    · have HE := hid (show n = g.flows.length by omega)
      have q1 : ¬ (n : Int) < (g.flows.length : Int) := by omega
      have HBF := hid (HB1.out.trans (HXR.out.mono HB1.out.size))
      have L1 := hid HB1.out.size
      clear hX
      go_wp2
      go_ret
      refine ⟨⟨_, rfl, ?_⟩, HBF.out⟩
      rw [← HE.out]
      exact owns_weak2 HO.out (by have := L1.out; have := L3.out; omega)
end Gt
end Go.Proofs.YtepfkfhbkbkepaaDoor
