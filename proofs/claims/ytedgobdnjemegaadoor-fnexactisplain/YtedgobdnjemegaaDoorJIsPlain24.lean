/- What is done one behind the other, as the program makes a block of it: lineBlock. -/
import Derived.Test.YtedgobdnjemegaaDoorJIsPlain23
import Derived.RangeFuncBox
import Derived.Maps.AppendAt
import Derived.Deep.CutRange
import Derived.Deep.LoopGhost
namespace Go.Proofs.YtedgobdnjemegaaDoor
open Go.RowKit
set_option linter.unusedVariables false
namespace Bk
open Ex (hid)
open Nd (NodeD)
open St (StepD)
open Nst (own flat)
open Pl
theorem infoBlock : (Tryd.prog.info? 51).map (fun i => (i.zero, i.size, i.bytes)) = some (some (.agg #[.int .i64 0, .int .i64 0, .string { data := #[] }, .int .i64 0, .slice none 0 0, .slice none 0 0, .slice none 0 0]), 7, 112) := by kernel_rfl
/-- Whatever lies in what was there, or is new. -/
abbrev Or' (A : Nat → Prop) (lo : Nat) : Nat → Prop := fun b => A b ∨ lo ≤ b
structure SeqS (s : StepD) (c : List NodeD) : Prop where
  kind : s.kind = 1
  name : s.name = ⟨#[]⟩
  arg : s.arg = 0
  cond : s.cond = c
  expr : s.expr = []
theorem nds_nil (S : Nat → Prop) (w : World) : NdS S w (.slice none 0 0) [] := ⟨⟨none, 0, rfl, Nat.le_refl _, Nat.zero_le _, .inl rfl⟩, .inl rfl⟩
theorem lineT_take {l : List PT} {j : Nat} (h : j < l.length) : lineT (l.take (j + 1)) = lineT (l.take j) ++ pieceT l[j] := by
  rw [List.take_succ_eq_append_getElem h, line_snoc]
theorem lineT_le {l : List PT} (j : Nat) : (lineT (l.take j)).length ≤ (lineT l).length := by
  have e : lineT l = lineT (l.take j) ++ lineT (l.drop j) := by
    unfold lineT
    rw [← List.flatMap_append, List.take_append_drop]
  rw [e, List.length_append]
  omega
theorem heap_new (w : World) (o : Obj) : (w.alloc o).heap[w.heap.size]? = some o := by
  show (w.heap.push o)[w.heap.size]? = some o
  simp
theorem info_parts {t : TypeId} {z : Value} {n by' : Nat} (h : (Tryd.prog.info? t).map (fun i => (i.zero, i.size, i.bytes)) = some (some z, n, by')) : ∃ i, Tryd.prog.info? t = some i ∧ i.zero = some z ∧ i.size = n ∧ i.bytes = by' := by
  cases hi : Tryd.prog.info? t with
  | none => rw [hi] at h; cases h
  | some i =>
    rw [hi] at h
    simp only [Option.map_some, Option.some.injEq, Prod.mk.injEq] at h
    exact ⟨i, rfl, h.1, h.2.1, h.2.2⟩
/-- A row under way that has one, cell by cell. -/
theorem RowB.first {A : Nat → Prop} {lo : Nat} {ty : TypeId} {f : Nat} {w : World} {v : Value} {l : List PT} (h : RowB A lo ty f w v l) (h1 : l.length = 1) :
    ∃ g cap p vc ve vk, v = .slice (some ⟨g, 0, none⟩) 1 cap ∧ lo ≤ g ∧ g < w.heap.size ∧ w.cell? ⟨g, 0, none⟩ = some (.int .i64 (TJ l 0).s.kind) ∧ w.cell? ⟨g, 1, none⟩ = some (.int .i64 p) ∧ w.cell? ⟨g, 2, none⟩ = some (.string (TJ l 0).s.name) ∧ w.cell? ⟨g, 3, none⟩ = some (.int .i64 (TJ l 0).s.arg) ∧ w.cell? ⟨g, 4, none⟩ = some vc ∧ w.cell? ⟨g, 5, none⟩ = some ve ∧ w.cell? ⟨g, 6, none⟩ = some vk ∧ NdS (Or' A lo) w vc (TJ l 0).s.cond ∧ NdS (Or' A lo) w ve (TJ l 0).s.expr ∧ KAt (Or' A lo) f w vk (TJ l 0).kids := by
  have hd := h.done
  obtain ⟨c, ho, _⟩ := h
  obtain ⟨g, cap, rfl, hB, hg, hc, hm⟩ := Nst.own_some ho (by omega)
  obtain ⟨g', p, vc, ve, vk, e, hS, hg', c0, c1, c2, c3, c4, c5, c6, d1, d2, d3⟩ := hd.at (j := 0) (by omega)
  cases e
  rw [TJ_eq (by omega)]
  simp only [Nat.zero_mul, Nat.zero_add] at c0 c1 c2 c3 c4 c5 c6
  exact ⟨g, cap, p, vc, ve, vk, by rw [h1], hB, hg, c0, c1, c2, c3, c4, c5, c6, d1, d2, d3⟩
theorem bv_fin {S S' : Nat → Prop} {f : Nat} {wr W : World} {t : PT} {p : Int} {vc ve vk : Value} (hk : Kp S wr W) (h1 : NdS S wr vc t.s.cond) (h2 : NdS S wr ve t.s.expr) (h3 : KAt S f wr vk t.kids) (hS : ∀ b, S b → S' b) : BV S' f W (.agg #[.int .i64 t.s.kind, .int .i64 p, .string t.s.name, .int .i64 t.s.arg, vc, ve, vk]) t :=
  ⟨p, vc, ve, vk, rfl, (h1.kp hk).mono (fun b _ hb => hS b hb), (h2.kp hk).mono (fun b _ hb => hS b hb), KAt.mono (fun b _ hb => hS b hb) f (h3.kp hk)⟩
theorem bv_seq {S S' : Nat → Prop} {f : Nat} {wr W : World} {s : StepD} {c : List NodeD} {L : List PT} {vc vk : Value} (hs : SeqS s c) (hk : Kp S wr W) (h1 : NdS S wr vc c) (h3 : KAt S f wr vk L) (hS : ∀ b, S b → S' b) : BV S' f W (.agg #[.int .i64 1, .int .i64 0, .string { data := #[] }, .int .i64 0, vc, .slice none 0 0, vk]) ⟨s, L⟩ := by
  have h5 := bv_fin (S := S) (S' := S') (f := f) (wr := wr) (W := W) (t := ⟨s, L⟩) (p := 0) (vc := vc) (ve := .slice none 0 0) (vk := vk) hk (by rw [hs.cond]; exact h1) (by rw [hs.expr]; exact nds_nil _ _) h3 hS
  simp only [hs.kind, hs.name, hs.arg] at h5
  exact h5
set_option maxRecDepth 100000 in
set_option maxHeartbeats 2000000 in
theorem lineBlock (A : Nat → Prop) (f : Nat) (l : List PT) (c : List NodeD) (s : StepD) (vl vc : Value) (w : World) (hA : ∀ b, A b → b < w.heap.size) (hk : KAt A (f + 1) w vl l) (hc : NdS A w vc c) (hn : (lineT l).length ≤ 1000000000000) (hs : SeqS s c) :
    Calls Tryd.prog 42 #[vl, vc] w fun e w' => (∃ v, e = .returned v ∧ BV (Or' A w.heap.size) (f + 1) w' v (wholeT s (lineT l))) ∧ Below w.heap.size w w' := by
  obtain ⟨al, cl, rfl⟩ := hk.slice
  obtain ⟨ac, cc, rfl⟩ := hc.slice
  obtain ⟨i0, hi0, hz0, hz1, hz2⟩ := info_parts infoBlock
  have hll : l.length ≤ maxLen := by have := hk.cap; omega
  unfold maxLen at hll
  have hcl : c.length ≤ maxLen := by obtain ⟨a1, c1, e1, h1, h2, _⟩ := hc.1; omega
  unfold maxLen at hcl
  obtain ⟨w0, hw0⟩ : ∃ w0, w0 = w.alloc (.cells #[.int .i64 0, .int .i64 0, .string { data := #[] }, .int .i64 0, .slice none 0 0, .slice none 0 0, .slice none 0 0] 51) := ⟨_, rfl⟩
  have hb0 : Below w.heap.size w w0 := by rw [hw0]; exact (Below.refl _ w).alloc (Nat.le_refl _) _
  have hsz : w0.heap.size = w.heap.size + 1 := by rw [hw0]; simp
  have hr0 : w0.heap[w.heap.size]? = some (.cells #[.int .i64 0, .int .i64 0, .string { data := #[] }, .int .i64 0, .slice none 0 0, .slice none 0 0, .slice none 0 0] 51) := by rw [hw0]; exact heap_new w _
  have HB0 := hid hb0
  have HR0 := hid hr0
  have HZ0 := hid hsz
  have HK := hid (hk.below hb0)
  have HC := hid (hc.below hb0)
  have HA := hid hA
  have HS := hid hs
  have HN : Hid (∀ j, (lineT (l.take j)).length ≤ 1000000000000) := hid (fun j => Nat.le_trans (lineT_le j) hn)
  clear hk hc hA hs hn hb0 hsz hr0
  go_enter Tryd.func42, Tryd.ntmps42
  go_wp2
  rw [← hw0]
  clear hw0
  go_loopw [5, 11] (fun kv i wr => ∃ (j : Nat), i = .int .i64 j ∧ j ≤ l.length ∧ (∃ a7 n7 c7, kv = .slice a7 n7 c7) ∧ Hid (RowB A w0.heap.size 51 f wr kv (lineT (l.take j))) ∧ Hid (Below w0.heap.size w0 wr)) (fun _ i _ => l.length - (intOf i).toNat)
  case atStart => exact ⟨0, rfl, Nat.zero_le _, ⟨_, _, _, rfl⟩, hid (RowB.nil _ _ _ _ _), hid (Below.refl _ _)⟩
  case round =>
    obtain ⟨j, rfl, hjl, ⟨a7, n7, c7, rfl⟩, HO, HB⟩ := hrel
    have hA0 : Hid (∀ b, A b → b < w0.heap.size) := hid (fun b hb => by have := HA.out b hb; have := HZ0.out; omega)
    have lw := HB.out.size
    by_cases hlt : j < l.length
    · have q1 : (j : Int) < (l.length : Int) := by omega
      obtain ⟨g, p, vc, ve, vk, rfl, hSg, hg, c0, c1, c2, c3, c4, c5, c6, d1, d2, d3⟩ := (HK.out.below HB.out).at hlt
      have HTS := hid (lineT_take hlt)
      have HN1 := HN.out (j + 1)
      rw [HTS.out, List.length_append] at HN1
      obtain ⟨ax, cx, rfl⟩ := d1.slice
      obtain ⟨ay, cy, rfl⟩ := d2.slice
      obtain ⟨az, cz, rfl⟩ := d3.slice
      have HD1 := hid d1
      have HD2 := hid d2
      have HD3 := hid d3
      have hn7 : n7 = (lineT (l.take j)).length := by
        obtain ⟨a', c', e'⟩ := HO.out.slice
        cases e'; rfl
      subst hn7
      clear d1 d2 d3
      generalize l[j] = x at *
      have hbx : Below wr.heap.size wr (wr.alloc (.cells #[.int .i64 x.s.kind, .int .i64 p, .string x.s.name, .int .i64 x.s.arg, .slice ax x.s.cond.length cx, .slice ay x.s.expr.length cy, .slice az x.kids.length cz] 51)) := (Below.refl _ wr).alloc (Nat.le_refl _) _
      have hRx := HO.out.below hbx
      obtain ⟨cf, ho, hcf⟩ := hRx
      have HBX := hid hbx
      have HSX : Hid (∀ b, A b → Sx A w0.heap.size (.slice a7 (lineT (l.take j)).length c7) b) := hid (sx_of (fun b hb => ⟨(Nst.own_lt ho hb).1, (Nst.own_lt ho hb).2⟩) hA0.out (fun b hb => .inl hb) (by simp; omega))
      have HOX := hid ho
      have HCF := hid hcf
      clear hbx ho hcf HO
      generalize hL : lineT (l.take j) = L at *
      clear hL
      by_cases hkd : x.s.kind = 1
      · have HP : Hid (pieceT x = x.kids) := hid (by unfold pieceT; rw [if_pos hkd])
        rw [HP.out] at HN1
        obtain ⟨d, hrow, hd⟩ := (KAt.up f (HD3.out.below HBX.out)).row
        have HROW := hid hrow
        have HDD : Hid (∀ j (h : j < x.kids.length), C7 (Sx A w0.heap.size (.slice a7 L.length c7)) _ (KAt (Sx A w0.heap.size (.slice a7 L.length c7)) f _) (d j) x.kids[j]) := hid (fun j h => (hd j h).imp (fun v l h => h.mono (fun b _ hb => HSX.out b hb)) (fun v l h => KAt.mono (fun b _ hb => HSX.out b hb) f h))
        have b1 : (x.s.kind == 1) = true := by simp [hkd]
        clear hkd hrow hd
        go_wp2_with (at_builtin; go_must (refine Ap.wpList_any _ rfl _ _ 49 rfl w0.heap.size 51 i0 (.agg #[.int .i64 0, .int .i64 0, .string { data := #[] }, .int .i64 0, .slice none 0 0, .slice none 0 0, .slice none 0 0]) 7 112 Tryd.underlying49 hi0 hz0 hz1 hz2 rfl (by decide) _ _ _ rfl HOX.out _ _ _ rfl HROW.out (by unfold maxLen; omega) (by omega) (by simp; omega) _ rfl ?_); intro a9 c9 w9 hown9 hg9 hat9)
        have HO9 := hid (RowB.append HOX.out HCF.out HDD.out hown9 hg9 hat9)
        have HB9 : Hid (Below w0.heap.size w0 w9) := hid ((HB.out.trans (HBX.out.mono lw)).grown hg9 (by simp; omega) (fun b e => (Nst.own_lt HOX.out e).1))
        clear hown9 hg9 hat9
        go_wp2
        exact ⟨⟨j + 1, by simp, by omega, ⟨_, _, _, rfl⟩, hid (by rw [HTS.out, HP.out]; exact HO9.out), HB9⟩, by simp [intOf]; omega⟩
      · have HP : Hid (pieceT x = [x]) := hid (by unfold pieceT; rw [if_neg hkd])
        rw [HP.out, List.length_singleton] at HN1
        have b1 : (x.s.kind == 1) = false := by simp [hkd]
        have HBY : Hid (Below wr.heap.size wr ((wr.alloc (.cells #[.int .i64 x.s.kind, .int .i64 p, .string x.s.name, .int .i64 x.s.arg, .slice ax x.s.cond.length cx, .slice ay x.s.expr.length cy, .slice az x.kids.length cz] 51)).alloc (.cells #[.int .i64 x.s.kind, .int .i64 p, .string x.s.name, .int .i64 x.s.arg, .slice ax x.s.cond.length cx, .slice ay x.s.expr.length cy, .slice az x.kids.length cz] 51))) := hid (HBX.out.alloc (by simp) _)
        have HBZ := hid ((Below.refl _ (wr.alloc (.cells #[.int .i64 x.s.kind, .int .i64 p, .string x.s.name, .int .i64 x.s.arg, .slice ax x.s.cond.length cx, .slice ay x.s.expr.length cy, .slice az x.kids.length cz] 51))).alloc (Nat.le_refl _) (.cells #[.int .i64 x.s.kind, .int .i64 p, .string x.s.name, .int .i64 x.s.arg, .slice ax x.s.cond.length cx, .slice ay x.s.expr.length cy, .slice az x.kids.length cz] 51))
        have HOY := hid (Nst.own_kept HOX.out (fun b hv => HBZ.out.block b (Nst.own_lt HOX.out hv).2))
        have HCY := hid (fun j (h : j < L.length) => (HCF.out j h).imp (fun v l h => h.below HBZ.out) (fun v l h => KAt.below h HBZ.out))
        have HDD : Hid (∀ j (h : j < [x].length), C7 (Sx A w0.heap.size (.slice a7 L.length c7)) ((wr.alloc (.cells #[.int .i64 x.s.kind, .int .i64 p, .string x.s.name, .int .i64 x.s.arg, .slice ax x.s.cond.length cx, .slice ay x.s.expr.length cy, .slice az x.kids.length cz] 51)).alloc (.cells #[.int .i64 x.s.kind, .int .i64 p, .string x.s.name, .int .i64 x.s.arg, .slice ax x.s.cond.length cx, .slice ay x.s.expr.length cy, .slice az x.kids.length cz] 51)) (KAt (Sx A w0.heap.size (.slice a7 L.length c7)) f ((wr.alloc (.cells #[.int .i64 x.s.kind, .int .i64 p, .string x.s.name, .int .i64 x.s.arg, .slice ax x.s.cond.length cx, .slice ay x.s.expr.length cy, .slice az x.kids.length cz] 51)).alloc (.cells #[.int .i64 x.s.kind, .int .i64 p, .string x.s.name, .int .i64 x.s.arg, .slice ax x.s.cond.length cx, .slice ay x.s.expr.length cy, .slice az x.kids.length cz] 51))) ((fun _ => [.int .i64 x.s.kind, .int .i64 p, .string x.s.name, .int .i64 x.s.arg, .slice ax x.s.cond.length cx, .slice ay x.s.expr.length cy, .slice az x.kids.length cz]) j) [x][j]) := hid (fun j h => by
          obtain rfl : j = 0 := by simpa using h
          exact ⟨p, _, _, _, rfl, (HD1.out.below HBY.out).mono (fun b _ hb => HSX.out b hb), (HD2.out.below HBY.out).mono (fun b _ hb => HSX.out b hb), KAt.mono (fun b _ hb => HSX.out b hb) f (HD3.out.below HBY.out)⟩)
        have HROW : Hid (Ap.Row ((wr.alloc (.cells #[.int .i64 x.s.kind, .int .i64 p, .string x.s.name, .int .i64 x.s.arg, .slice ax x.s.cond.length cx, .slice ay x.s.expr.length cy, .slice az x.kids.length cz] 51)).alloc (.cells #[.int .i64 x.s.kind, .int .i64 p, .string x.s.name, .int .i64 x.s.arg, .slice ax x.s.cond.length cx, .slice ay x.s.expr.length cy, .slice az x.kids.length cz] 51)) 7 (.slice (some ⟨wr.heap.size + 1, 0, none⟩) 1 1) 1 [.int .i64 x.s.kind, .int .i64 p, .string x.s.name, .int .i64 x.s.arg, .slice ax x.s.cond.length cx, .slice ay x.s.expr.length cy, .slice az x.kids.length cz]) := hid ⟨_, _, rfl, rfl, (by simp [Value.oneCell']), .inr ⟨_, rfl, seven _ (by simp) _ _ _ _ _ _ _ _⟩⟩
        clear hkd
        go_wp2_with (at_builtin; go_must (refine Ap.wpList_any _ rfl _ _ 49 rfl w0.heap.size 51 i0 (.agg #[.int .i64 0, .int .i64 0, .string { data := #[] }, .int .i64 0, .slice none 0 0, .slice none 0 0, .slice none 0 0]) 7 112 Tryd.underlying49 hi0 hz0 hz1 hz2 rfl (by decide) _ _ _ rfl HOY.out _ _ _ rfl HROW.out (by unfold maxLen; omega) (by omega) (by simp; omega) _ rfl ?_); intro a9 c9 w9 hown9 hg9 hat9)
        have HO9 := hid (RowB.append (m := [x]) HOY.out HCY.out HDD.out hown9 hg9 hat9)
        have HB9 : Hid (Below w0.heap.size w0 w9) := hid ((HB.out.trans (HBY.out.mono lw)).grown hg9 (by simp; omega) (fun b e => (Nst.own_lt HOX.out e).1))
        clear hown9 hg9 hat9
        go_wp2
        exact ⟨⟨j + 1, by simp, by omega, ⟨_, _, _, rfl⟩, hid (by rw [HTS.out, HP.out]; exact HO9.out), HB9⟩, by simp [intOf]; omega⟩
    · have q1 : ¬ (j : Int) < (l.length : Int) := by omega
      have hjn : j = l.length := by omega
      have HO1 : Hid (RowB A w0.heap.size 51 f wr (.slice a7 n7 c7) (lineT l)) := hid (by
        have := HO.out
        rw [hjn, List.take_length] at this
        exact this)
      have HN1 : (lineT l).length ≤ 1000000000000 := by
        have := HN.out l.length
        rw [List.take_length] at this
        exact this
      have hn7 : n7 = (lineT l).length := by
        obtain ⟨a', c', e'⟩ := HO1.out.slice
        cases e'; rfl
      subst hn7
      have hsz := HZ0.out
      have hrr : wr.heap[w.heap.size]? = some (.cells #[.int .i64 0, .int .i64 0, .string { data := #[] }, .int .i64 0, .slice none 0 0, .slice none 0 0, .slice none 0 0] 51) := (HB.out.block _ (by omega)).trans HR0.out
      have hcell : ∀ i v, #[Value.int .i64 0, .int .i64 0, .string { data := #[] }, .int .i64 0, .slice none 0 0, .slice none 0 0, .slice none 0 0][i]? = some v → wr.cell? ⟨w.heap.size, i, none⟩ = some v := fun i v h => by simp only [World.cell?, hrr]; simpa using h
      have z0 := hcell 0 _ rfl
      have z1 := hcell 1 _ rfl
      have z2 := hcell 2 _ rfl
      have z3 := hcell 3 _ rfl
      have z4 := hcell 4 _ rfl
      have z5 := hcell 5 _ rfl
      have z6 := hcell 6 _ rfl
      have zf : ∀ i, wr.frozen? ⟨w.heap.size, i, none⟩ = false := fun i => by simp [World.frozen?, hrr]
      have f0 := zf 0
      have f1 := zf 1
      have f2 := zf 2
      have f3 := zf 3
      have f4 := zf 4
      have f5 := zf 5
      have f6 := zf 6
      have zl : w.heap.size < wr.heap.size := by omega
      have HSS : Hid (∀ b, Or' A w0.heap.size b → b ≠ w.heap.size) := hid (fun b hb e => by
        rcases hb with h | h
        · have := HA.out b h; omega
        · omega)
      have HSO : Hid (∀ b, Or' A w0.heap.size b → Or' A w.heap.size b) := hid (fun b hb => by
        rcases hb with h | h
        · exact .inl h
        · exact .inr (by omega))
      have HCX := hid (HC.out.below HB.out)
      have HBW := hid (HB0.out.trans (HB.out.mono (by omega)))
      clear hcell zf HO hjn
      by_cases h1 : (lineT l).length = 1
      · obtain ⟨g, cap, p, vc, ve, vk, e1, hgl, hg, c0, c1, c2, c3, c4, c5, c6, d1, d2, d3⟩ := HO1.out.first h1
        obtain ⟨rfl, rfl⟩ : a7 = some ⟨g, 0, none⟩ ∧ c7 = cap := by simpa [h1] using e1
        obtain ⟨ax, cx, rfl⟩ := d1.slice
        obtain ⟨ay, cy, rfl⟩ := d2.slice
        obtain ⟨az, cz, rfl⟩ := d3.slice
        have HD1 := hid d1
        have HD2 := hid d2
        have HD3 := hid d3
        have HWT : Hid (wholeT s (lineT l) = condT c (TJ (lineT l) 0)) := hid (by unfold wholeT; rw [if_pos h1, HS.out.cond])
        rw [h1]
        clear d1 d2 d3 e1 HO1 hgl
        generalize TJ (lineT l) 0 = x at *
        by_cases hc0 : 0 < c.length
        · have q3 : (0 : Int) < (c.length : Int) := by omega
          have HCT : Hid (condT c x = ⟨{ x.s with cond := c }, x.kids⟩) := hid (by unfold condT; rw [if_pos hc0])
          go_wp2
          refine bodyPost_ret (results_cell_row Tryd.results42 _ _ w.heap.size 51 #[.int .i64 x.s.kind, .int .i64 p, .string x.s.name, .int .i64 x.s.arg, .slice ac c.length cc, .slice ay x.s.expr.length cy, .slice az x.kids.length cz] (0, 0) _ rfl ((Below.heap_alloc _ _ _ (by rw [size7]; exact zl)).trans (set7 hrr _ _ _ _ _ _ _)) Tryd.underlying51 rfl (by rw [hi0]; simp [hz1])) rfl ⟨⟨_, rfl, ?_⟩, ?_⟩
          · rw [HWT.out, HCT.out]
            refine bv_fin (S := Or' A w0.heap.size) (wr := wr) (t := ⟨{ x.s with cond := c }, x.kids⟩) ?_ (HCX.out.mono (fun b _ hb => .inl hb)) HD2.out (KAt.up f HD3.out) HSO.out
            exact (kp7 (Kp.refl _ wr) (fun h2 => HSS.out _ h2 rfl) _ _ _ _ _ _ _).alloc _
          · exact (below7 HBW.out (Nat.le_refl _) _ _ _ _ _ _ _).alloc (by rw [size7]; omega) _
        · have q3 : ¬ (0 : Int) < (c.length : Int) := by omega
          have HCT : Hid (condT c x = x) := hid (by unfold condT; rw [if_neg hc0])
          go_wp2
          refine bodyPost_ret (results_cell_row Tryd.results42 _ _ w.heap.size 51 #[.int .i64 x.s.kind, .int .i64 p, .string x.s.name, .int .i64 x.s.arg, .slice ax x.s.cond.length cx, .slice ay x.s.expr.length cy, .slice az x.kids.length cz] (0, 0) _ rfl ((Below.heap_alloc _ _ _ (by rw [size7]; exact zl)).trans (set7 hrr _ _ _ _ _ _ _)) Tryd.underlying51 rfl (by rw [hi0]; simp [hz1])) rfl ⟨⟨_, rfl, ?_⟩, ?_⟩
          · rw [HWT.out, HCT.out]
            refine bv_fin (S := Or' A w0.heap.size) (wr := wr) ?_ HD1.out HD2.out (KAt.up f HD3.out) HSO.out
            exact (kp7 (Kp.refl _ wr) (fun h2 => HSS.out _ h2 rfl) _ _ _ _ _ _ _).alloc _
          · exact (below7 HBW.out (Nat.le_refl _) _ _ _ _ _ _ _).alloc (by rw [size7]; omega) _
      · have HWT : Hid (wholeT s (lineT l) = ⟨s, lineT l⟩) := hid (by unfold wholeT; rw [if_neg h1])
        have HD := hid HO1.out.done
        have b2 : (((lineT l).length : Int) == 1) = false := by simp; omega
        generalize hLe : lineT l = L at *
        have HLE := hid hLe
        clear HO1 h1 hLe
        by_cases hc0 : 0 < c.length
        · have q3 : (0 : Int) < (c.length : Int) := by omega
          go_wp2
          refine bodyPost_ret (results_cell_row Tryd.results42 _ _ w.heap.size 51 #[.int .i64 1, .int .i64 0, .string { data := #[] }, .int .i64 0, .slice ac c.length cc, .slice none 0 0, .slice a7 L.length c7] (0, 0) _ rfl ((Below.heap_alloc _ _ _ (by rw [size7]; exact zl)).trans (set7 hrr _ _ _ _ _ _ _)) Tryd.underlying51 rfl (by rw [hi0]; simp [hz1])) rfl ⟨⟨_, rfl, ?_⟩, ?_⟩
          · rw [HLE.out, HWT.out]
            exact bv_seq HS.out ((kp7 (Kp.refl _ wr) (fun h2 => HSS.out _ h2 rfl) _ _ _ _ _ _ _).alloc _) (HCX.out.mono (fun b _ hb => .inl hb)) HD.out HSO.out
          · exact (below7 HBW.out (Nat.le_refl _) _ _ _ _ _ _ _).alloc (by rw [size7]; omega) _
        · have q3 : ¬ (0 : Int) < (c.length : Int) := by omega
          have HC0 : Hid (c = []) := hid (List.eq_nil_of_length_eq_zero (by omega))
          go_wp2
          refine bodyPost_ret (results_cell_row Tryd.results42 _ _ w.heap.size 51 #[.int .i64 1, .int .i64 0, .string { data := #[] }, .int .i64 0, .slice none 0 0, .slice none 0 0, .slice a7 L.length c7] (0, 0) _ rfl ((Below.heap_alloc _ _ _ (by rw [size7]; exact zl)).trans (set7 hrr _ _ _ _ _ _ _)) Tryd.underlying51 rfl (by rw [hi0]; simp [hz1])) rfl ⟨⟨_, rfl, ?_⟩, ?_⟩
          · rw [HLE.out, HWT.out]
            exact bv_seq HS.out ((kp7 (Kp.refl _ wr) (fun h2 => HSS.out _ h2 rfl) _ _ _ _ _ _ _).alloc _) (by rw [HC0.out]; exact nds_nil _ _) HD.out HSO.out
          · exact (below7 HBW.out (Nat.le_refl _) _ _ _ _ _ _ _).alloc (by rw [size7]; omega) _
end Bk
end Go.Proofs.YtedgobdnjemegaaDoor
