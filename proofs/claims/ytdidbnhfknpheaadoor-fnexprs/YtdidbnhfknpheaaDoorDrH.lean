/- What the specification draws of expressions: DrawParseExpr: some text. -/
import Derived.Test.YtdidbnhfknpheaaDoorDrG
namespace Go.Proofs.YtdidbnhfknpheaaDoor
open Go.RowKit
set_option linter.unusedVariables false
namespace DrE
open Ex
open Nd (NodeD)
theorem Bt.bytes {w : World} {g cap : Nat} {l : List UInt8} (h : Bt w g cap l) {j : Nat} {u : Value} (hj : (l.map fun b => Value.int .u8 (b.toNat : Int))[j]? = some u) : w.cell? ⟨g, 0 + j, none⟩ = some u := by
  obtain ⟨cur, h1, h2, h3, h4⟩ := h
  rw [List.getElem?_map] at hj
  obtain ⟨b, hb, rfl⟩ := Option.map_eq_some_iff.1 hj
  obtain ⟨hlt, rfl⟩ := List.getElem?_eq_some_iff.1 hb
  simp [World.cell?, h1, h4 j hlt]
theorem Bt.push {w : World} {g cap : Nat} {l : List UInt8} (h : Bt w g cap l) (hi : l.length < cap) : Bt (w.setCell ⟨g, l.length, none⟩ (.int .u8 49)) g cap (l ++ [49]) := by
  obtain ⟨cur, h1, h2, h3, h4⟩ := h
  refine ⟨cur.setIfInBounds l.length (.int .u8 49), by simp [World.setCell, Array.getElem?_modify, h1], by simpa using h2, by simp; omega, fun j hj => ?_⟩
  rw [List.length_append, List.length_singleton] at hj
  by_cases e : l.length = j
  · subst e
    simp [show l.length < cur.size by omega]
  · rw [Array.getElem?_setIfInBounds_ne e, h4 j (by omega), List.getElem_append_left (by omega)]
theorem cell_byte (w : World) (v : Value) : ∀ (j : Nat) (u : Value), [v][j]? = some u → (w.alloc (.cells #[v] 5)).cell? ((⟨w.heap.size, 0, none⟩ : Addr).add j) = some u
  | 0, u, h => by
    cases h
    have e : (w.alloc (.cells #[v] 5)).heap[w.heap.size]? = some (.cells #[v] 5 (0, 0)) := World.alloc_heap_new w _
    rw [Addr.add_lit]
    simp only [World.cell?, e]
    rfl
  | j + 1, u, h => by simp at h
set_option maxRecDepth 100000 in
set_option maxHeartbeats 16000000 in
theorem drawParse (len cap : Nat) (a : Option Addr) (w : World) (hln : len ≤ 1048576) (hc : Drw.CodeAt w.heap.size w a len) :
    Calls Tryd.prog 5 #[.slice a len cap] w fun e w' => ∃ l : List UInt8, l.length ≤ 1000 ∧ e = .returned (.string (str l)) ∧ Below w.heap.size w w' := by
  obtain ⟨i0, hi0, hz0, hz1, hz2⟩ := info_parts infoU8
  have hb0 : Below w.heap.size w (w.alloc (.cells #[.slice a len cap, .int .i64 0] 55)) := (Below.refl _ w).alloc (Nat.le_refl _) _
  have HS : Hid (Drw.Src (w.alloc (.cells #[.slice a len cap, .int .i64 0] 55)) w.heap.size a len cap 0) := hid (World.alloc_heap_new w (.cells #[.slice a len cap, .int .i64 0] 55))
  have HC := hid (code_below hc hb0 (Nat.le_refl _))
  have HB := hid hb0
  clear hc hb0
  have HCV := hid (fun (s : ByteArray) (w : World) => run_bytes_of_string (P := Tryd.prog) w 9 22 5 s Tryd.underlying9 Tryd.underlying22 Tryd.underlying5)
  go_enter Tryd.func5, Tryd.ntmps5
  go_wp2_with fail
  refine (Drw.source a len cap w).mono ?_
  rintro e w1 ⟨rfl, rfl⟩
  have hBS : w.heap.size ≤ w.heap.size := Nat.le_refl _
  go_wp2_with fail
  refine (Drw.next w.heap.size w.heap.size len cap 0 2 a _ HS.out HC.out hBS hln (by omega) (by omega) (by omega)).mono ?_
  rintro e w1 ⟨rt, hrt, rfl, hs2, hg2⟩
  replace HB := hid (HB.out.trans (below_src hg2 HS.out.lt))
  replace HC := hid (code_below HC.out (below_src hg2 HS.out.lt) hBS)
  replace HS := hid hs2
  clear hs2 hg2
  go_wp2_with fail
  refine (draw w.heap.size w.heap.size len cap (0 + 1) a (1 + (rt : Int)) _ hBS hln (by omega) HS.out HC.out (by omega)).mono ?_
  rintro e w2 ⟨tm, u, pos', hok, hsz, rfl, ho, hs2, hp2, hb2⟩
  have hpz := size_pos tm
  replace HB := hid (HB.out.trans hb2)
  replace HC := hid (code_below HC.out hb2 hBS)
  replace HS := hid hs2
  have HT := hid (termText hok (by omega) (at_of_owns (by rw [nodes_len]; exact ho)))
  have hl1 := txt_len tm (near_of_ok hok)
  have hl2 := txt_pos tm
  have hS2 := hs2.lt
  obtain ⟨au, cu, rfl⟩ := own4_slice ho
  clear hok ho hs2 hb2
  generalize tm.txt = tx at *
  go_wp2_with fail
  refine HT.out.mono ?_
  rintro e w3 ⟨rfl, hb3⟩
  replace HB := hid (HB.out.trans (hb3.mono (Nat.le_of_lt hS2)))
  replace HC := hid (code_below HC.out (hb3.mono (Nat.le_of_lt hS2)) hBS)
  replace HS := hid (src_below HS.out hb3)
  have hS3 := HS.out.lt
  have e1 : (str tx).size = tx.length := str_size tx
  have hcv2 := HCV.out (str tx) w3
  rw [e1] at hcv2
  clear hb3 HT HCV
  have hc5l : tx.length ≤ grownCap w3 tx.length 0 5 := grownCap_ge _ _ _ _
  generalize grownCap w3 tx.length 0 5 = c5 at *
  have HBt := hid (bt_new w3.drew tx c5 hc5l)
  have HB5 : Hid (Below w.heap.size w (w3.drew.alloc (.cells (bytesRow (str tx) c5) 5 ((bytesRow (str tx) c5).size, (bytesRow (str tx) c5).size + 1)))) := hid (HB.out.drew.alloc (Nat.le_of_lt hS3) _)
  have HS5 : Hid (Drw.Src (w3.drew.alloc (.cells (bytesRow (str tx) c5) 5 ((bytesRow (str tx) c5).size, (bytesRow (str tx) c5).size + 1))) w.heap.size a len cap pos') := hid (src_alloc (w := w3.drew) HS.out _)
  have HC5 := hid (code_below HC.out (((Below.refl w.heap.size w3).drew).alloc (Nat.le_of_lt hS3) (.cells (bytesRow (str tx) c5) 5 ((bytesRow (str tx) c5).size, (bytesRow (str tx) c5).size + 1))) hBS)
  generalize (Obj.cells (bytesRow (str tx) c5) 5 ((bytesRow (str tx) c5).size, (bytesRow (str tx) c5).size + 1)) = ob at *
  have hlx : tx.length ≤ 28 := by omega
  go_wp2_with fail
  refine (Drw.next w.heap.size w.heap.size len cap pos' 6 a _ HS5.out HC5.out hBS hln (by omega) (by omega) (by omega)).mono ?_
  rintro e w6 ⟨r, hr, rfl, hs6, hg6⟩
  have HS6 := hid hs6
  have hl6 := hs6.lt
  have hbs := below_src hg6 HS5.out.lt
  have HB6 := hid (HB5.out.trans hbs)
  have HC6 := hid (code_below HC5.out hbs hBS)
  have hBt6 : Bt w6 w3.heap.size c5 tx := HBt.out.keep (hg6.block _ HBt.out.lt (fun e => by have h : w3.heap.size = w.heap.size := Option.some.inj e; omega))
  have HBt6 := hid hBt6
  obtain ⟨g, hg⟩ : ∃ g, g = w3.heap.size := ⟨_, rfl⟩
  clear hs6 hg6 hbs hBt6 HS5 HB5 HC5 HBt hcv2 HS HC HB
  rw [← hg] at HBt6 ⊢
  have hgS : w.heap.size < g := by omega
  clear hg
  by_cases r0 : r = 0
  · subst r0
    go_wp2_with fail
    refine (Drw.next w.heap.size w.heap.size len cap (pos' + 1) tx.length a _ HS6.out HC6.out hBS hln (by omega) (by omega) (by omega)).mono ?_
    rintro e w7 ⟨i, hi, rfl, hs7, hg7⟩
    have HS7 := hid hs7
    have hl7 := hs7.lt
    have hbs := below_src hg7 HS6.out.lt
    have HB7 := hid (HB6.out.trans hbs)
    have HC7 := hid (code_below HC6.out hbs hBS)
    have HBt7 : Hid (Bt w7 g c5 tx) := hid (HBt6.out.keep (hg7.block _ HBt6.out.lt (fun e => by cases e; omega)))
    clear hs7 hg7 hbs HS6 HB6 HC6 HBt6
    have HSa := hid (src_alloc HS7.out (.cells #[.int .i64 48, .int .i64 40, .int .i64 118, .int .i64 57, .int .i64 41] 2))
    have HBa : Hid (Below w.heap.size w (w7.alloc (.cells #[.int .i64 48, .int .i64 40, .int .i64 118, .int .i64 57, .int .i64 41] 2))) := hid (HB7.out.alloc (Nat.le_of_lt hl7) _)
    have hba := (Below.refl w7.heap.size w7).alloc (Nat.le_refl _) (.cells #[.int .i64 48, .int .i64 40, .int .i64 118, .int .i64 57, .int .i64 41] 2)
    have HCa := hid (code_below HC7.out (hba.mono (Nat.le_of_lt hl7)) hBS)
    have HBta := hid (HBt7.out.keep (hba.block _ HBt7.out.lt))
    clear hba
    go_wp2_with fail
    refine (Drw.pick w.heap.size w.heap.size len cap (pos' + 1 + 1) w7.heap.size 5 [48, 40, 118, 57, 41] a _ HSa.out HCa.out hBS hln (by omega) rfl (by omega) (by omega) (by omega) (by simp) pickP).mono ?_
    rintro e w8 ⟨z, hz, rfl, hs8, hg8⟩
    obtain ⟨b, rfl⟩ : ∃ b : UInt8, z = (b.toNat : Int) := by
      simp at hz
      rcases hz with rfl | rfl | rfl | rfl | rfl
      · exact ⟨48, rfl⟩
      · exact ⟨40, rfl⟩
      · exact ⟨118, rfl⟩
      · exact ⟨57, rfl⟩
      · exact ⟨41, rfl⟩
    have hw8 : IntKind.u8.wrap (b.toNat : Int) = (b.toNat : Int) := IntWalk.u8_in _ (by have := b.toNat_lt; omega)
    have HB8 := hid (HBa.out.trans (below_src hg8 HSa.out.lt))
    have hBt8 : Bt w8 g c5 tx := HBta.out.keep (hg8.block _ HBta.out.lt (fun e => by cases e; omega))
    obtain ⟨⟨u8, hu8⟩, hf8⟩ := hBt8.cell (i := i) (by omega)
    have hcb := (hBt8.set hi b).conv
    rw [List.length_set] at hcb
    have q1 : (i : Int) < (tx.length : Int) := by omega
    clear hz hs8 hg8 hBt8 HSa HBa HCa HBta HS7 HB7 HC7 HBt7
    go_wp2
    go_ret
    exact ⟨tx.set i b, by rw [List.length_set]; omega, rfl, HB8.out.setCell (show w.heap.size ≤ g by omega) _⟩
  have s0 : ((r : Int) == 0) = false := by simp; omega
  by_cases r1 : r = 1
  · subst r1
    go_wp2_with fail
    refine (Drw.next w.heap.size w.heap.size len cap (pos' + 1) tx.length a _ HS6.out HC6.out hBS hln (by omega) (by omega) (by omega)).mono ?_
    rintro e w7 ⟨i, hi, rfl, hs7, hg7⟩
    have HB7 := hid (HB6.out.trans (below_src hg7 HS6.out.lt))
    have hBt7 : Bt w7 g c5 tx := HBt6.out.keep (hg7.block _ HBt6.out.lt (fun e => by cases e; omega))
    have hcb := (hBt7.take i).conv
    rw [List.length_take, Nat.min_eq_left (by omega)] at hcb
    have q1 : (i : Int) ≤ (c5 : Int) := by omega
    clear hs7 hg7 hBt7 HS6 HB6 HC6 HBt6
    go_wp2
    go_ret
    exact ⟨tx.take i, by rw [List.length_take]; omega, rfl, HB7.out⟩
  have s1 : ((r : Int) == 1) = false := by simp; omega
  by_cases r2 : r = 2
  · subst r2
    have hba := (Below.refl w6.heap.size w6).alloc (Nat.le_refl _) (.cells #[.int .u8 49] 5)
    have hBta : Bt (w6.alloc (.cells #[.int .u8 49] 5)) g c5 tx := HBt6.out.keep (hba.block _ HBt6.out.lt)
    have HBa : Hid (Below w.heap.size w (w6.alloc (.cells #[.int .u8 49] 5))) := hid (HB6.out.alloc (Nat.le_of_lt hl6) _)
    have HBta := hid hBta
    clear hba hBta HS6 HC6 HB6
    have HSC : Hid ((w6.alloc (.cells #[.int .u8 49] 5)).setCells g tx.length [.int .u8 49] = (w6.alloc (.cells #[.int .u8 49] 5)).setCell ⟨g, tx.length, none⟩ (.int .u8 49)) := hid (by simp [World.setCells])
    have HRM : Hid (tx.length + 1 ≤ c5 → Sem.run Tryd.prog (convert 22 9 (.slice (some ⟨g, 0, none⟩) (tx.length + 1) c5)) ((w6.alloc (.cells #[.int .u8 49] 5)).setCells g tx.length [.int .u8 49]) = .ok (.string (str (tx ++ [49]))) ((w6.alloc (.cells #[.int .u8 49] 5)).setCells g tx.length [.int .u8 49])) := hid (fun hr => by
      have hcb := (HBta.out.push (show tx.length < c5 by omega)).conv
      rw [List.length_append, List.length_singleton] at hcb
      rw [HSC.out]
      exact hcb)
    have HSP : Hid (tx.length + 1 ≤ c5 → ∀ j, j < 1 → ((w6.alloc (.cells #[.int .u8 49] 5)).cell? ⟨g, 0 + tx.length * 1 + j, none⟩).isSome = true ∧ (w6.alloc (.cells #[.int .u8 49] 5)).frozen? ⟨g, 0 + tx.length * 1 + j, none⟩ = false) := hid (fun hr j hj => by
      obtain ⟨⟨u, hu⟩, hf⟩ := HBta.out.cell (i := 0 + tx.length * 1 + j) (by omega)
      exact ⟨by rw [hu]; rfl, hf⟩)
    have HGR : Hid (∀ (v' : Value) (w' : World), w'.ownsRow (w6.heap.size + 1) 5 1 v' (tx.length + 1) ((tx.map fun b => .int .u8 (b.toNat : Int)) ++ [.int .u8 49]) → ∃ g9 c9, v' = .slice (some ⟨g9, 0, none⟩) (tx.length + 1) c9 ∧ Sem.run Tryd.prog (convert 22 9 (.slice (some ⟨g9, 0, none⟩) (tx.length + 1) c9)) w' = .ok (.string (str (tx ++ [49]))) w') := hid (fun v' w' h => (own_conv (l := tx ++ [49]) (by rw [List.map_append]; exact h) (by omega)).2)
    go_wp2_with (at_builtin; go_must (refine wpList_append_arg _ rfl _ _ 22 rfl 5 i0 (.int .u8 0) 1 1 Tryd.underlying22 hi0 hz0 hz1 hz2 rfl (by decide) g 0 tx.length c5 (tx.map fun b => .int .u8 (b.toNat : Int)) rfl (by simp) (fun j u hj => HBta.out.bytes hj) ⟨w6.heap.size, 0, none⟩ 1 1 [.int .u8 49] rfl rfl (cell_byte _ _) (by simp [Value.oneCell']) HSP.out (by unfold maxLen; omega) (by omega) ?_ ?_); (intro hr; have hcb := HRM.out hr))
    · go_ret
      refine ⟨tx ++ [49], by rw [List.length_append, List.length_singleton]; omega, rfl, ?_⟩
      rw [HSC.out]
      exact HBa.out.setCell (show w.heap.size ≤ g from Nat.le_of_lt hgS) _
    · intro hr v' w' hown hgr
      obtain ⟨g9, c9, rfl, hcb⟩ := HGR.out v' w' hown
      have HB9 := hid (HBa.out.grown hgr (by simp; omega) (fun b e => by cases e))
      clear hown hgr
      go_wp2
      go_ret
      exact ⟨tx ++ [49], by rw [List.length_append, List.length_singleton]; omega, rfl, HB9.out⟩
  have s2 : ((r : Int) == 2) = false := by simp; omega
  have hcb := HBt6.out.conv
  clear HS6 HC6 HBt6
  go_wp2
  go_ret
  exact ⟨tx, by omega, rfl, HB6.out⟩
end DrE
end Go.Proofs.YtdidbnhfknpheaaDoor
