/- The specification's text of a graph. -/
import Derived.Test.YtepfkfhbkbkepaaDoorGtA
namespace Go.Proofs.YtepfkfhbkbkepaaDoor
open Go.RowKit
set_option linter.unusedVariables false
set_option linter.unusedSimpArgs false
namespace Gt
open Ex (hid inR)
open Nd (NodeD)
open Gr
open Rc
open Ints (IntsAt)
open Go.Lib (decDigits)
theorem ret_text' {c d : Int} {a b : ByteArray} (h : c = d) (h2 : a = b) : Ending.returned (.agg #[.int .i64 c, .string a]) = .returned (.agg #[.int .i64 d, .string b]) := by rw [h, h2]
def wordCells : Array Value := #[.string ⟨#[]⟩, .string ⟨#[115, 116, 97, 114, 116]⟩, .string ⟨#[101, 110, 100]⟩, .string ⟨#[116, 97, 115, 107]⟩, .string ⟨#[119, 97, 105, 116]⟩, .string ⟨#[116, 105, 109, 101, 114]⟩, .string ⟨#[115, 101, 116]⟩, .string ⟨#[115, 112, 108, 105, 116]⟩, .string ⟨#[106, 111, 105, 110]⟩, .string ⟨#[102, 111, 114, 107]⟩, .string ⟨#[109, 101, 101, 116]⟩, .string ⟨#[111, 112, 101, 110]⟩, .string ⟨#[99, 108, 111, 115, 101]⟩, .string ⟨#[109, 101, 114, 103, 101]⟩]
theorem word_cell (w : World) {K : Nat} (h : 1 ≤ K ∧ K ≤ 13) : (w.alloc (.cells #[.string ⟨#[]⟩, .string ⟨#[115, 116, 97, 114, 116]⟩, .string ⟨#[101, 110, 100]⟩, .string ⟨#[116, 97, 115, 107]⟩, .string ⟨#[119, 97, 105, 116]⟩, .string ⟨#[116, 105, 109, 101, 114]⟩, .string ⟨#[115, 101, 116]⟩, .string ⟨#[115, 112, 108, 105, 116]⟩, .string ⟨#[106, 111, 105, 110]⟩, .string ⟨#[102, 111, 114, 107]⟩, .string ⟨#[109, 101, 101, 116]⟩, .string ⟨#[111, 112, 101, 110]⟩, .string ⟨#[99, 108, 111, 115, 101]⟩, .string ⟨#[109, 101, 114, 103, 101]⟩] 9)).cell? ⟨w.heap.size, K, none⟩ = some (.string (str (wordG (K : Int)))) := by
  have hK : K = 1 ∨ K = 2 ∨ K = 3 ∨ K = 4 ∨ K = 5 ∨ K = 6 ∨ K = 7 ∨ K = 8 ∨ K = 9 ∨ K = 10 ∨ K = 11 ∨ K = 12 ∨ K = 13 := by omega
  rcases hK with rfl | rfl | rfl | rfl | rfl | rfl | rfl | rfl | rfl | rfl | rfl | rfl | rfl <;> go_simp <;> rfl
theorem nums_take {ds : List Nat} {m : Nat} (h : m < ds.length) : numsL (ds.take (m + 1)) = numsL (ds.take m) ++ 32 :: decDigits ds[m] := by
  rw [List.take_add_one, List.getElem?_eq_getElem h, Option.toList_some, nums_snoc]
set_option maxRecDepth 100000 in
set_option maxHeartbeats 8000000 in
theorem specGraphText (B : Nat) (g : GraphD) (vn vf : Value) (w : World) (hsm : Small 1048576 g) (ha : At w B vn vf g) :
    Calls Tryd.prog 5 #[.agg #[vn, vf]] w fun e w' => e = .returned (.agg #[.int .i64 (gFault g), .string (textG g)]) ∧ Below w.heap.size w w' := by
  obtain ⟨an, cn, rfl⟩ := ha.nodes.slice
  obtain ⟨af, cf, rfl⟩ := ha.flows.slice
  have hx : Below w.heap.size w ((w.alloc (.cells #[.slice an g.nodes.length cn, .slice af g.flows.length cf] 33)).alloc (.cells #[.int .i64 0, .string ⟨#[]⟩] 28)) := ((Below.refl _ w).alloc (Nat.le_refl _) _).alloc (by simp) _
  have HX := hid hx
  have HA := hid (ha.below hx)
  have h0 : ((w.alloc (.cells #[.slice an g.nodes.length cn, .slice af g.flows.length cf] 33)).alloc (.cells #[.int .i64 0, .string ⟨#[]⟩] 28)).cell? ⟨w.heap.size, 0, none⟩ = some (.slice an g.nodes.length cn) := by go_simp
  have h1 : ((w.alloc (.cells #[.slice an g.nodes.length cn, .slice af g.flows.length cf] 33)).alloc (.cells #[.int .i64 0, .string ⟨#[]⟩] 28)).cell? ⟨w.heap.size, 1, none⟩ = some (.slice af g.flows.length cf) := by go_simp
  have hz : ((w.alloc (.cells #[.slice an g.nodes.length cn, .slice af g.flows.length cf] 33)).alloc (.cells #[.int .i64 0, .string ⟨#[]⟩] 28)).heap.size = w.heap.size + 1 + 1 := by simp
  have hrb : ((w.alloc (.cells #[.slice an g.nodes.length cn, .slice af g.flows.length cf] 33)).alloc (.cells #[.int .i64 0, .string ⟨#[]⟩] 28)).heap[w.heap.size + 1]? = some (.cells #[.int .i64 0, .string ⟨#[]⟩] 28) := by
    have := heap_alloc_new (w.alloc (.cells #[.slice an g.nodes.length cn, .slice af g.flows.length cf] 33)) (.cells #[.int .i64 0, .string ⟨#[]⟩] 28)
    rw [World.size_alloc] at this
    exact this
  have HF := hid (specFault1 B w.heap.size g _ _ _ hsm (by omega) h0 h1 HA.out)
  clear ha hsm hx
  go_enter Tryd.func5, Tryd.ntmps5
  go_wp2_with fail
  generalize (w.alloc (.cells #[.slice an g.nodes.length cn, .slice af g.flows.length cf] 33)).alloc (.cells #[.int .i64 0, .string ⟨#[]⟩] 28) = w0 at *
  refine HF.out.mono ?_
  rintro e w1 ⟨rfl, hb1⟩
  have hz1 := hb1.size
  have l1 : w.heap.size + 1 < w1.heap.size := by omega
  have l0 : w.heap.size < w1.heap.size := by omega
  have HRB := hid ((hb1.block (w.heap.size + 1) (by omega)).trans hrb)
  have HB1 := hid (HX.out.trans (hb1.mono (by omega)))
  have k0 := old_cell hb1 (by omega) h0
  have k1 := old_cell hb1 (by omega) h1
  have HA1 := hid (HA.out.below hb1)
  clear hb1 h0 h1 hz hz1 hrb HA HF HX
  by_cases hf : gFault g = 0
  · have HFZ := hid hf
    have HFI := hid (fine hf)
    have HV := hid (text_ok hf)
    have hnl := HFI.out.nlen
    have hfl := HFI.out.flen
    rw [hf]
    have HXW : Hid (Below w1.heap.size w1 (w1.alloc (.cells #[.string ⟨#[]⟩, .string ⟨#[115, 116, 97, 114, 116]⟩, .string ⟨#[101, 110, 100]⟩, .string ⟨#[116, 97, 115, 107]⟩, .string ⟨#[119, 97, 105, 116]⟩, .string ⟨#[116, 105, 109, 101, 114]⟩, .string ⟨#[115, 101, 116]⟩, .string ⟨#[115, 112, 108, 105, 116]⟩, .string ⟨#[106, 111, 105, 110]⟩, .string ⟨#[102, 111, 114, 107]⟩, .string ⟨#[109, 101, 101, 116]⟩, .string ⟨#[111, 112, 101, 110]⟩, .string ⟨#[99, 108, 111, 115, 101]⟩, .string ⟨#[109, 101, 114, 103, 101]⟩] 9))) := hid ((Below.refl _ w1).alloc (Nat.le_refl _) _)
    have HWC : Hid (∀ K : Nat, 1 ≤ K ∧ K ≤ 13 → (w1.alloc (.cells #[.string ⟨#[]⟩, .string ⟨#[115, 116, 97, 114, 116]⟩, .string ⟨#[101, 110, 100]⟩, .string ⟨#[116, 97, 115, 107]⟩, .string ⟨#[119, 97, 105, 116]⟩, .string ⟨#[116, 105, 109, 101, 114]⟩, .string ⟨#[115, 101, 116]⟩, .string ⟨#[115, 112, 108, 105, 116]⟩, .string ⟨#[106, 111, 105, 110]⟩, .string ⟨#[102, 111, 114, 107]⟩, .string ⟨#[109, 101, 101, 116]⟩, .string ⟨#[111, 112, 101, 110]⟩, .string ⟨#[99, 108, 111, 115, 101]⟩, .string ⟨#[109, 101, 114, 103, 101]⟩] 9)).cell? ⟨w1.heap.size, K, none⟩ = some (.string (str (wordG (K : Int))))) := hid (fun K h => word_cell w1 h)
    have zw : w1.heap.size < (w1.alloc (.cells #[.string ⟨#[]⟩, .string ⟨#[115, 116, 97, 114, 116]⟩, .string ⟨#[101, 110, 100]⟩, .string ⟨#[116, 97, 115, 107]⟩, .string ⟨#[119, 97, 105, 116]⟩, .string ⟨#[116, 105, 109, 101, 114]⟩, .string ⟨#[115, 101, 116]⟩, .string ⟨#[115, 112, 108, 105, 116]⟩, .string ⟨#[106, 111, 105, 110]⟩, .string ⟨#[102, 111, 114, 107]⟩, .string ⟨#[109, 101, 101, 116]⟩, .string ⟨#[111, 112, 101, 110]⟩, .string ⟨#[99, 108, 111, 115, 101]⟩, .string ⟨#[109, 101, 114, 103, 101]⟩] 9)).heap.size := by simp
    clear hf
    go_wp2_with fail
    generalize w1.alloc (.cells #[.string ⟨#[]⟩, .string ⟨#[115, 116, 97, 114, 116]⟩, .string ⟨#[101, 110, 100]⟩, .string ⟨#[116, 97, 115, 107]⟩, .string ⟨#[119, 97, 105, 116]⟩, .string ⟨#[116, 105, 109, 101, 114]⟩, .string ⟨#[115, 101, 116]⟩, .string ⟨#[115, 112, 108, 105, 116]⟩, .string ⟨#[106, 111, 105, 110]⟩, .string ⟨#[102, 111, 114, 107]⟩, .string ⟨#[109, 101, 101, 116]⟩, .string ⟨#[111, 112, 101, 110]⟩, .string ⟨#[99, 108, 111, 115, 101]⟩, .string ⟨#[109, 101, 114, 103, 101]⟩] 9) = w2 at *
    have c0 := old_cell HXW.out l0 k0
    have c1 := old_cell HXW.out l0 k1
    have m0 := Nat.lt_of_lt_of_le l0 HXW.out.size
    have HA2 := hid (HA1.out.below HXW.out)
    clear k0 k1 HA1
    go_loopw [5, 6, 7, 8] (fun s x _ _ wr => ∃ n : Nat, x = .int .i64 n ∧ n ≤ g.nodes.length ∧ s = .string (str (textL g n)) ∧ Hid (Below w2.heap.size w2 wr)) (fun _ x _ _ _ => g.nodes.length - (intOf x).toNat)
    case atStart => exact ⟨0, rfl, Nat.zero_le _, rfl, hid (Below.refl _ _)⟩
    case round =>
      obtain ⟨n, rfl, hn, rfl, HBR⟩ := hrel
      have d0 := old_cell HBR.out m0 c0
      have d1 := old_cell HBR.out m0 c1
      have zr := Nat.lt_of_lt_of_le m0 HBR.out.size
      by_cases hlt : n < g.nodes.length
      · obtain ⟨gn, on, vx, rfl, hg, p0, p1, p2, p3, p4, hvx⟩ := (HA2.out.nodes.below HBR.out).at hlt
        have q1 : (n : Int) < (g.nodes.length : Int) := by omega
        have hkd := HFI.out.kind n hlt
        have HHD : Hid (headG g n = decDigits n ++ [58, 32] ++ wordG g.nodes[n].kind) := hid (by unfold headG; rw [NJ_eq hlt])
        rw [NJ_eq hlt] at hkd
        have hkd' := Ex.inR_iff.1 hkd
        obtain ⟨K, hK⟩ : ∃ K : Nat, g.nodes[n].kind = (K : Int) := ⟨g.nodes[n].kind.toNat, by omega⟩
        rw [hK] at p0 hkd' HHD
        have wK : wr.cell? ⟨w1.heap.size, K, none⟩ = some (.string (str (wordG (K : Int)))) := old_cell HBR.out zw (HWC.out K (by omega))
        have zwr := Nat.lt_of_lt_of_le zw HBR.out.size
        have zt := text_len HFI.out n hn
        have zg := word_len (K : Int)
        have zd := dig2 (n := n) (by omega)
        have K13 : K < 14 := by omega
        have K14 : (K : Int) < 14 := by omega
        have HD := hid (fun (w' : World) => specDigits (n + 1) n w' (by omega) (by omega))
        have s0 : (str (textL g n)).size ≤ 16000 := by rw [str_size]; omega
        have s1 : (str (decDigits n)).size ≤ 2 := by rw [str_size]; omega
        have s2 : (str (wordG (K : Int))).size ≤ 5 := by rw [str_size]; exact zg
        have s3 : (ByteArray.mk #[58, 32]).size = 2 := rfl
        have ad1 := add_str (str (textL g n)) (str (decDigits n)) (by omega)
        have ad2 := add_str (str (textL g n) ++ str (decDigits n)) (ByteArray.mk #[58, 32]) (by (try simp only [ByteArray.size_append]); omega)
        have ad3 := add_str (str (textL g n) ++ str (decDigits n) ++ ByteArray.mk #[58, 32]) (str (wordG (K : Int))) (by (try simp only [ByteArray.size_append]); omega)
        have HSU : Hid (str (textL g n) ++ str (decDigits n) ++ ByteArray.mk #[58, 32] ++ str (wordG (K : Int)) = str (textL g n ++ headG g n)) := hid (by
          rw [HHD.out]
          rw [show (ByteArray.mk #[58, 32]) = str [58, 32] from rfl, str_app, str_app, str_app]
          congr 1
          simp)
        have hxd : Below wr.heap.size wr wr.drew := (Below.refl _ wr).drew
        have e0 : wr.drew.cell? ⟨w.heap.size, 0, none⟩ = some (.slice (some ⟨gn, on, none⟩) g.nodes.length cn) := d0
        have e1 : wr.drew.cell? ⟨gn, on + n * 5, none⟩ = some (.int .i64 (K : Int)) := p0
        have e2 : wr.drew.cell? ⟨w1.heap.size, K, none⟩ = some (.string (str (wordG (K : Int)))) := wK
        have y0 : w.heap.size < wr.drew.heap.size := zr
        have y1 : gn < wr.drew.heap.size := hg
        have y2 : w1.heap.size < wr.drew.heap.size := zwr
        clear hvx p1 p2 p3 p4 hkd hkd' HHD zt zg zd s0 s1 s2 s3 hK
        generalize hth : str (textL g n ++ headG g n) = th at *
        generalize str (textL g n) = tn at *
        generalize str (decDigits n) = dn at *
        generalize str (wordG (K : Int)) = wd at *
        go_wp2
        go_region_held3 (fun wx => wx.cell? ⟨w.heap.size, 0, none⟩ = some (.slice (some ⟨gn, on, none⟩) g.nodes.length cn) ∧ wx.cell? ⟨gn, on + n * 5, none⟩ = some (.int .i64 (K : Int)) ∧ wx.cell? ⟨w1.heap.size, K, none⟩ = some (.string wd)) (refine ⟨?_, ?_, ?_⟩ <;> first | assumption | (simp [*]; done)) (first | (go_at_call 13; refine (HD.out _).mono ?_; rintro e w3 ⟨rfl, hb3⟩; have j0 := kept_cell (b := w.heap.size) (o := 0) hb3 y0 e0; have j1 := kept_cell (b := gn) (o := on + n * 5) hb3 y1 e1; have j2 := kept_cell (b := w1.heap.size) (o := K) hb3 y2 e2; have hX3 := hxd.trans hb3; clear hb3))
        rw [HSU.out]
        have HX3 := hid hX3
        have HB3 := hid (HBR.out.trans (hX3.mono HBR.out.size))
        have HA3 := hid ((HA2.out.below HBR.out).below hX3)
        have d3 := old_cell hX3 zr d1
        have z3 := Nat.lt_of_lt_of_le zr hX3.size
        clear hX3 j0 j1 j2 e0 e1 e2 y0 y1 y2 hxd p0 wK zwr ad1 ad2 ad3 HSU HD hg d0 d1
        have HLF := hid (specFlowsFrom1 B w.heap.size g _ _ (n : Int) w3 (by omega) z3 d3 HA3.out)
        go_wp2_with fail
        refine HLF.out.mono ?_
        rintro e w4 ⟨⟨u, rfl, ho⟩, hb4⟩
        have HLT := hid (IntsAt.of ho)
        obtain ⟨al, cl, rfl⟩ := Ints.owns_slice ho
        have HB4 := hid (HB3.out.trans (hb4.mono HB3.out.size))
        have HA4 := hid (HA3.out.below hb4)
        have d4 := old_cell hb4 z3 d3
        have z4 := Nat.lt_of_lt_of_le z3 hb4.size
        have hxs := from_le g.flows (n : Int) g.flows.length
        have HDS := hid (outs_from g.flows (n : Int) g.flows.length)
        have HXM : Hid (∀ x ∈ fromN g.flows (n : Int) g.flows.length, 0 ≤ x ∧ x.toNat < g.flows.length ∧ ((x.toNat : Nat) : Int) = x) := hid (fun x hx => from_mem hx)
        have HLI : Hid (lineG g n = headG g n ++ numsL (outsN g.flows (n : Int) g.flows.length)) := hid rfl
        have HOM := hid (outs_mem HFI.out (node := (n : Int)) (Nat.le_refl g.flows.length))
        have HTH := hid hth
        generalize fromN g.flows (n : Int) g.flows.length = xs at *
        generalize outsN g.flows (n : Int) g.flows.length = ds at *
        have hdl : ds.length = xs.length := by rw [HDS.out, List.length_map]
        have HDL := hid hdl
        clear ho hb4 HLF d3 z3 HB3 HA3 HX3 hth hdl
        go_wp2_with fail
        obtain ⟨wq, hwq⟩ : ∃ wq, wq = w4 := ⟨_, rfl⟩
        subst hwq
        obtain ⟨wR, hwR⟩ : ∃ wR, wR = wr := ⟨_, rfl⟩
        subst hwR
        go_loopw [5, 8] (fun s x wr => ∃ m : Nat, x = .int .i64 m ∧ m ≤ xs.length ∧ s = .string (str (textL g n ++ headG g n ++ numsL (ds.take m))) ∧ Hid (Below wq.heap.size wq wr)) (fun _ x _ => xs.length - (intOf x).toNat)
        case atStart => exact ⟨0, rfl, Nat.zero_le _, by rw [← HTH.out]; simp [numsL], hid (Below.refl _ _)⟩
        case round =>
          obtain ⟨m, rfl, hm, rfl, HBS⟩ := hrel
          have f4 := old_cell HBS.out z4 d4
          have zs := Nat.lt_of_lt_of_le z4 HBS.out.size
          by_cases hmt : m < xs.length
          · obtain ⟨gl, rfl, hgl, cl0⟩ := (HLT.out.below HBS.out).at hmt
            have hxm := HXM.out xs[m] (List.getElem_mem hmt)
            obtain ⟨j, hj⟩ : ∃ j : Nat, xs[m] = (j : Int) := ⟨xs[m].toNat, hxm.2.2.symm⟩
            have hjl : j < g.flows.length := by have := hxm.2.1; omega
            obtain ⟨gf, of, vx, rfl, hgf, b0, b1, b2, hvx⟩ := (HA4.out.flows.below HBS.out).at hjl
            have hdst := HFI.out.dst j hjl
            have hmd : m < ds.length := by rw [HDL.out]; exact hmt
            have hdm : ds[m] = (FJ g.flows j).dst.toNat := by
              have : ds[m]? = (xs.map fun x => (FJ g.flows x.toNat).dst.toNat)[m]? := by rw [← HDS.out]
              rw [List.getElem?_eq_getElem hmd, List.getElem?_map, List.getElem?_eq_getElem hmt, hj] at this
              simpa using this
            have HNT := hid (nums_take hmd)
            rw [FJ_eq hjl] at hdst hdm
            obtain ⟨D, hD⟩ : ∃ D : Nat, g.flows[j].dst = (D : Int) := ⟨g.flows[j].dst.toNat, by omega⟩
            rw [hD] at b1 hdst hdm
            rw [hj] at cl0
            rw [hdm] at HNT
            have e9 : ((D : Int)).toNat = D := by simp
            rw [e9] at HNT
            have q2 : (m : Int) < (xs.length : Int) := by omega
            have q3 : (j : Int) < (g.flows.length : Int) := by omega
            have zt := text_len HFI.out n hn
            have zh := head_len HFI.out hlt
            have zn := nums_len (ds := ds.take m) (fun d hd => HOM.out d (List.mem_of_mem_take hd))
            have zk : (ds.take m).length ≤ m := by rw [List.length_take]; omega
            have zd := dig2 (n := D) (by omega)
            have HD := hid (fun (w' : World) => specDigits (D + 1) D w' (by omega) (by omega))
            have s0 : (str (textL g n ++ headG g n ++ numsL (ds.take m))).size ≤ 16000 := by rw [str_size, List.length_append, List.length_append]; omega
            have s1 : (str (decDigits D)).size ≤ 2 := by rw [str_size]; omega
            have s3 : (ByteArray.mk #[32]).size = 1 := rfl
            have ad1 := add_str (str (textL g n ++ headG g n ++ numsL (ds.take m))) (ByteArray.mk #[32]) (by omega)
            have ad2 := add_str (str (textL g n ++ headG g n ++ numsL (ds.take m)) ++ ByteArray.mk #[32]) (str (decDigits D)) (by (try simp only [ByteArray.size_append]); omega)
            have HSU : Hid (str (textL g n ++ headG g n ++ numsL (ds.take m)) ++ ByteArray.mk #[32] ++ str (decDigits D) = str (textL g n ++ headG g n ++ numsL (ds.take (m + 1)))) := hid (by
              rw [HNT.out, show (ByteArray.mk #[32]) = str [32] from rfl, str_app, str_app]
              congr 1
              simp)
            have hxd : Below wr.heap.size wr wr.drew := (Below.refl _ wr).drew
            have e0 : wr.drew.cell? ⟨w.heap.size, 1, none⟩ = some (.slice (some ⟨gf, of, none⟩) g.flows.length cf) := f4
            have e1 : wr.drew.cell? ⟨gl, m, none⟩ = some (.int .i64 (j : Int)) := cl0
            have e2 : wr.drew.cell? ⟨gf, of + j * 3 + 1, none⟩ = some (.int .i64 (D : Int)) := b1
            have y0 : w.heap.size < wr.drew.heap.size := zs
            have y1 : gl < wr.drew.heap.size := hgl
            have y2 : gf < wr.drew.heap.size := hgf
            clear hvx b0 b2 hxm hdst hmd hdm HNT zt zh zn zk zd s0 s1 s3 hj hD e9
            generalize ht2 : str (textL g n ++ headG g n ++ numsL (ds.take (m + 1))) = t2 at *
            have HT2 := hid ht2
            clear ht2
            generalize str (textL g n ++ headG g n ++ numsL (ds.take m)) = t1 at *
            generalize str (decDigits D) = dn at *
            go_wp2
            go_region_held3 (fun wx => wx.cell? ⟨w.heap.size, 1, none⟩ = some (.slice (some ⟨gf, of, none⟩) g.flows.length cf) ∧ wx.cell? ⟨gl, m, none⟩ = some (.int .i64 (j : Int)) ∧ wx.cell? ⟨gf, of + j * 3 + 1, none⟩ = some (.int .i64 (D : Int))) (refine ⟨?_, ?_, ?_⟩ <;> first | assumption | (simp [*]; done)) (first | (go_at_call 13; refine (HD.out _).mono ?_; rintro e w5 ⟨rfl, hb5⟩; have j0 := kept_cell (b := w.heap.size) (o := 1) hb5 y0 e0; have j1 := kept_cell (b := gl) (o := m) hb5 y1 e1; have j2 := kept_cell (b := gf) (o := of + j * 3 + 1) hb5 y2 e2; have hX5 := hxd.trans hb5; clear hb5))
            rw [HSU.out]
            have HB5 := hid (HBS.out.trans (hX5.mono HBS.out.size))
            clear hX5 j0 j1 j2 e0 e1 e2 y0 y1 y2 hxd ad1 ad2 HSU
            go_wp2
            exact ⟨⟨m + 1, by simp, by omega, by rw [HT2.out], HB5⟩, by simp [intOf]; omega⟩
          · have hme : m = xs.length := by omega
            have HTK : Hid (textL g n ++ headG g n ++ numsL (ds.take m) = textL g n ++ lineG g n) := hid (by rw [hme, ← HDL.out, List.take_length, HLI.out, List.append_assoc])
            have q2 : ¬ (m : Int) < (xs.length : Int) := by omega
            have zt := text_len HFI.out n hn
            have zl := line_len HFI.out hlt
            have s0 : (str (textL g n ++ lineG g n)).size ≤ 16000 := by rw [str_size, List.length_append]; omega
            have s3 : (ByteArray.mk #[10]).size = 1 := rfl
            have ad1 := add_str (str (textL g n ++ lineG g n)) (ByteArray.mk #[10]) (by omega)
            have HSU : Hid (str (textL g n ++ lineG g n) ++ ByteArray.mk #[10] = str (textL g (n + 1))) := hid (by
              rw [show (ByteArray.mk #[10]) = str [10] from rfl, str_app]
              rfl)
            have HBE := hid (HB4.out.trans (HBS.out.mono HB4.out.size))
            rw [HTK.out]
            clear hme zt zl s0 s3 HTK
            generalize str (textL g n ++ lineG g n) = t1 at *
            go_wp2
            exact ⟨⟨n + 1, by simp, by omega, by rw [← HSU.out], HBE⟩, by simp [intOf]; omega⟩
      · have HK := hid (show n = g.nodes.length by omega)
        have q1 : ¬ (n : Int) < (g.nodes.length : Int) := by omega
        have D2 := HXW.out.trans (HBR.out.mono HXW.out.size)
        have hr2 := (D2.block (w.heap.size + 1) l1).trans HRB.out
        have r0 : wr.cell? ⟨w.heap.size + 1, 0, none⟩ = some (.int .i64 0) := by simp [World.cell?, hr2]
        have r1 : wr.cell? ⟨w.heap.size + 1, 1, none⟩ = some (.string ⟨#[]⟩) := by simp [World.cell?, hr2]
        have f0 : wr.frozen? ⟨w.heap.size + 1, 0, none⟩ = false := by simp [World.frozen?, hr2]
        have f1 : wr.frozen? ⟨w.heap.size + 1, 1, none⟩ = false := by simp [World.frozen?, hr2]
        have l2 : w.heap.size + 1 < wr.heap.size := Nat.lt_of_lt_of_le l1 D2.size
        have B2 := hid (HB1.out.trans (D2.mono HB1.out.size))
        clear hr2 D2
        go_wp2
        exact bodyPost_ret (v := .agg #[.int .i64 0, .string (str (textL g n))]) (by simp [results, Tryd.results5, go_sem, r0, r1]) rfl ⟨ret_text' HFZ.out.symm (by rw [HV.out, HK.out]), setB (setB B2.out (Nat.le_succ _) _) (Nat.le_succ _) _⟩
  · have HV := hid (text_bad hf)
    have b1 : (gFault g != 0) = true := bne_iff_ne.2 hf
    have hr1 := HRB.out
    have r0 : w1.cell? ⟨w.heap.size + 1, 0, none⟩ = some (.int .i64 0) := by simp [World.cell?, hr1]
    have r1 : w1.cell? ⟨w.heap.size + 1, 1, none⟩ = some (.string ⟨#[]⟩) := by simp [World.cell?, hr1]
    have f0 : w1.frozen? ⟨w.heap.size + 1, 0, none⟩ = false := by simp [World.frozen?, hr1]
    have f1 : w1.frozen? ⟨w.heap.size + 1, 1, none⟩ = false := by simp [World.frozen?, hr1]
    clear hf hr1
    go_wp2
    exact bodyPost_ret (v := .agg #[.int .i64 (gFault g), .string ⟨#[]⟩]) (by simp [results, Tryd.results5, go_sem, r0, r1]) rfl ⟨ret_text' rfl (by rw [HV.out]; rfl), setB (setB HB1.out (Nat.le_succ _) _) (Nat.le_succ _) _⟩
end Gt
end Go.Proofs.YtepfkfhbkbkepaaDoor
