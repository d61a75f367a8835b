/- What the specification draws for EscapeText: some text of at most 41 bytes; nothing of what was there has turned. -/
import Derived.Test.YtbnpejijfnigaaaDoorDraw4
import Derived.Deep.RegionWith
namespace Go.Proofs.YtbnpejijfnigaaaDoor
open Go.Shelf Go.RowKit
set_option linter.unusedVariables false
namespace Drw
def zeros41 : Array Value := madeCells (Value.int .u8 0).cells (41 * 1)
theorem mk41 (w : World) : Sem.run Tryd.prog (Instr.makeSlice 22 (.int .i64 41) (.int .i64 41)) w = .ok (.slice (some ⟨w.heap.size, 0, none⟩) 41 41) (w.alloc (.cells zeros41 5)) := by
  obtain ⟨i0, hi, hz0, hz1, hz2⟩ := info_parts infoByte
  have h := run_makeSlice (P := Tryd.prog) w 22 5 i0 (.int .u8 0) Tryd.underlying22 hi hz0 .i64 .i64 41 41 (by omega) (by omega) (by rw [hz1]; decide) (by rw [hz2]; decide) (by omega)
  rw [hz1] at h
  exact h
theorem zeros41_get (i : Nat) (h : i < 41) : zeros41[i]? = some (.int .u8 0) := by
  have e : zeros41.toList = List.replicate 41 (Value.int .u8 0) := toList_madeCells_one (.int .u8 0) 41
  rw [← Array.getElem?_toList, e, List.getElem?_replicate, if_pos h]
def zl41 : List UInt8 := List.replicate 41 0
theorem zl41_len : zl41.length = 41 := List.length_replicate
def zt41 : ByteArray := ⟨zl41.toArray⟩
theorem zt41_size : zt41.size = 41 := zl41_len
theorem conv41 (w : World) (g : Nat) (h : w.heap[g]? = some (.cells zeros41 5)) : Sem.run Tryd.prog (convert 22 9 (.slice (some ⟨g, 0, none⟩) 41 41)) w = .ok (.string zt41) w := by
  have h := run_convert_bytes_back (P := Tryd.prog) w 22 9 5 ⟨g, 0, none⟩ 41 zl41 Tryd.underlying22 Tryd.underlying5 Tryd.underlying9 (by
    intro i hi
    have e : (⟨g, 0, none⟩ : Addr).add i = ⟨g, i, none⟩ := by rw [Addr.add_lit]; simp
    rw [e]
    unfold World.cell?
    simp only [h]
    have := zeros41_get i (by rw [zl41_len] at hi; exact hi)
    have h0 : zl41[i] = 0 := List.getElem_replicate _
    rw [h0]
    simpa using this)
  rw [zl41_len] at h
  exact h
/-- The source stands at pos, the code lies as it did, nothing below the source has turned. -/
def DS (w0 : World) (a : Option Addr) (len cap pos : Nat) (wx : World) : Prop := Src wx w0.heap.size a len cap pos ∧ CodeAt w0.heap.size wx a len ∧ Below w0.heap.size w0 wx
theorem DS.lt {w0 wx : World} {a : Option Addr} {len cap pos : Nat} (h : DS w0 a len cap pos wx) : w0.heap.size < wx.heap.size := h.1.lt
theorem DS.drew {w0 wx : World} {a : Option Addr} {len cap pos : Nat} (h : DS w0 a len cap pos wx) : DS w0 a len cap pos wx.drew := ⟨h.1, h.2.1, h.2.2.drew⟩
theorem DS.alloc {w0 wx : World} {a : Option Addr} {len cap pos : Nat} (h : DS w0 a len cap pos wx) (o : Obj) : DS w0 a len cap pos (wx.alloc o) :=
  ⟨h.1.grown (World.grownBy_alloc wx o none) (by simp), h.2.1.grown (World.grownBy_alloc wx o none) (Nat.le_of_lt h.lt) (fun k e => by cases e), h.2.2.alloc (Nat.le_of_lt h.lt) o⟩
theorem DS.grown {w0 wx w' : World} {a : Option Addr} {len cap pos p : Nat} (h : DS w0 a len cap pos wx) (hs : Src w' w0.heap.size a len cap p) (hg : wx.grownBy w' (some w0.heap.size)) : DS w0 a len cap p w' :=
  ⟨hs, h.2.1.grown hg (Nat.le_of_lt h.lt) (fun k e => by cases e; exact Nat.le_refl _), h.2.2.trans (below_of hg (Nat.le_refl _) (Nat.le_of_lt h.lt))⟩
theorem valueD {w0 wx : World} {a : Option Addr} {len cap pos : Nat} (h : DS w0 a len cap pos wx) (hl : len ≤ 1048576) (hp : pos ≤ 90000) :
    Calls Tryd.prog 22 #[.pointer (some ⟨w0.heap.size, 0, none⟩)] wx fun e w' => ∃ (t : ByteArray) (p : Nat), t.size ≤ 41 ∧ p ≤ pos + 8 ∧ e = .returned (.string t) ∧ DS w0 a len cap p w' ∧ wx.grownBy w' (some w0.heap.size) :=
  (value w0.heap.size w0.heap.size len cap pos a wx h.1 h.2.1 (Nat.le_refl _) hl hp).mono fun e w' ⟨t, p, ht, hp, he, hs, hg⟩ => ⟨t, p, by omega, hp, he, h.grown hs hg, hg⟩
theorem nextD {w0 wx : World} {a : Option Addr} {len cap pos : Nat} (h : DS w0 a len cap pos wx) (hl : len ≤ 1048576) (hp : pos ≤ 90000) :
    Calls Tryd.prog 12 #[.pointer (some ⟨w0.heap.size, 0, none⟩), .int .i64 6] wx fun e w' => ∃ (r : Nat), r < 6 ∧ e = .returned (.int .i64 r) ∧ DS w0 a len cap (pos + 1) w' ∧ wx.grownBy w' (some w0.heap.size) :=
  (next w0.heap.size w0.heap.size len cap pos 6 a wx h.1 h.2.1 (Nat.le_refl _) hl (by omega) (by omega) (by omega)).mono fun e w' ⟨r, hr, he, hs, hg⟩ => ⟨r, hr, he, h.grown hs hg, hg⟩
def digs : ByteArray := { data := #[48, 49, 50, 51, 52, 53, 54, 55, 56, 57, 48, 49, 50, 51, 52, 53, 54, 55, 56, 57, 48, 49, 50, 51, 52, 53, 54, 55, 56, 57, 48, 49, 50, 51, 52, 53, 54, 55, 56, 57, 48] }
def sel (r : Nat) (x y z : ByteArray) : ByteArray := match r with
  | 0 => x
  | 1 => y
  | 2 => z
  | 3 => { data := #[97, 10, 98] }
  | 4 => zt41
  | _ => digs
theorem sel_size (r : Nat) (x y z : ByteArray) (hx : x.size ≤ 41) (hy : y.size ≤ 41) (hz : z.size ≤ 41) : (sel r x y z).size ≤ 41 := by
  unfold sel
  split
  · exact hx
  · exact hy
  · exact hz
  · decide
  · exact Nat.le_of_eq zt41_size
  · decide
abbrev six (x y z : ByteArray) : Array Value := #[.string x, .string y, .string z, .string { data := #[97, 10, 98] }, .string zt41, .string { data := #[48, 49, 50, 51, 52, 53, 54, 55, 56, 57, 48, 49, 50, 51, 52, 53, 54, 55, 56, 57, 48, 49, 50, 51, 52, 53, 54, 55, 56, 57, 48, 49, 50, 51, 52, 53, 54, 55, 56, 57, 48] }]
theorem sel_get (r : Nat) (hr : r < 6) (x y z : ByteArray) : (six x y z)[r]? = some (.string (sel r x y z)) := by
  match r, hr with
  | 0, _ => rfl
  | 1, _ => rfl
  | 2, _ => rfl
  | 3, _ => rfl
  | 4, _ => rfl
  | 5, _ => rfl
theorem sel_list (r : Nat) (hr : r < 6) (x y z : ByteArray) (h : r < [Value.string x, .string y, .string z, .string { data := #[97, 10, 98] }, .string zt41, .string { data := #[48, 49, 50, 51, 52, 53, 54, 55, 56, 57, 48, 49, 50, 51, 52, 53, 54, 55, 56, 57, 48, 49, 50, 51, 52, 53, 54, 55, 56, 57, 48, 49, 50, 51, 52, 53, 54, 55, 56, 57, 48] }].length) : [Value.string x, .string y, .string z, .string { data := #[97, 10, 98] }, .string zt41, .string { data := #[48, 49, 50, 51, 52, 53, 54, 55, 56, 57, 48, 49, 50, 51, 52, 53, 54, 55, 56, 57, 48, 49, 50, 51, 52, 53, 54, 55, 56, 57, 48, 49, 50, 51, 52, 53, 54, 55, 56, 57, 48] }][r] = .string (sel r x y z) := by
  match r, hr with
  | 0, _ => rfl
  | 1, _ => rfl
  | 2, _ => rfl
  | 3, _ => rfl
  | 4, _ => rfl
  | 5, _ => rfl
theorem cell_six (w : World) (r : Nat) (hr : r < 6) (x y z : ByteArray) : (w.alloc (.cells (six x y z) 9)).cell? ⟨w.heap.size, r, none⟩ = some (.string (sel r x y z)) := by
  unfold World.cell?
  rw [heap_alloc_new]
  exact sel_get r hr x y z
theorem cell_kept {wx w' : World} {S r : Nat} {u : Value} (hg : wx.grownBy w' (some S)) {g : Nat} (hc : wx.cell? ⟨g, r, none⟩ = some u) (hne : g ≠ S) (hlt : g < wx.heap.size) : w'.cell? ⟨g, r, none⟩ = some u :=
  (World.cell?_of_block (a := ⟨g, r, none⟩) (hg.block g hlt (fun e => hne (Option.some.inj e)))).trans hc
theorem keepZ2 {wx w' : World} {S g : Nat} (hg : wx.grownBy w' (some S)) (hZ : wx.heap[g]? = some (.cells zeros41 5)) (hne : g ≠ S) : w'.heap[g]? = some (.cells zeros41 5) :=
  (hg.block g (Array.getElem?_eq_some_iff.1 hZ).1 (fun e => hne (Option.some.inj e))).trans hZ
theorem keepZ1 {X w' : World} {S : Nat} (hg : (X.alloc (.cells zeros41 5)).grownBy w' (some S)) (hne : X.heap.size ≠ S) : w'.heap[X.heap.size]? = some (.cells zeros41 5) :=
  keepZ2 hg (heap_alloc_new X _) hne
theorem keepZ1' {X w' : World} {S : Nat} (hg : (X.alloc (.cells zeros41 5)).drew.grownBy w' (some S)) (hne : X.heap.size ≠ S) : w'.heap[X.heap.size]? = some (.cells zeros41 5) :=
  keepZ2 hg (heap_alloc_new X _) hne
theorem keepC {X w' : World} {S : Nat} {x y z : ByteArray} (hg : (X.alloc (.cells (six x y z) 9)).grownBy w' (some S)) (r : Nat) (hr : r < 6) (hne : X.heap.size ≠ S) : w'.cell? ⟨X.heap.size, r, none⟩ = some (.string (sel r x y z)) :=
  cell_kept hg (cell_six X r hr x y z) hne (by simp)
set_option maxHeartbeats 8000000 in
theorem drawEsc (len cap : Nat) (a : Option Addr) (w : World) (hc : CodeAt w.heap.size w a len) (hl : len ≤ 1048576) :
    Calls Tryd.prog 9 #[.slice a len cap] w fun e w' => ∃ t : ByteArray, t.size ≤ 41 ∧ e = .returned (.string t) ∧ Below w.heap.size w w' := by
  have HC := Esc.hid hc
  clear hc
  go_enter Tryd.func9, Tryd.ntmps9
  go_wp2_with fail
  refine (source a len cap _).mono ?_
  rintro e w0 ⟨rfl, rfl⟩
  have hD : DS w a len cap 0 (w.alloc (.cells #[.slice a len cap, .int .i64 0] 51)) := ⟨heap_alloc_new w _, HC.out.grown (World.grownBy_alloc w _ none) (Nat.le_refl _) (fun k e => by cases e), (Below.refl _ w).alloc (Nat.le_refl _) _⟩
  go_wp2_with fail
  generalize w.alloc (.cells #[.slice a len cap, .int .i64 0] 51) = w1 at *
  have m41 := mk41
  have cvA := fun (X : World) => conv41 (X.alloc (.cells zeros41 5)) X.heap.size (heap_alloc_new X _)
  have cvB := fun (X : World) => conv41 (X.alloc (.cells zeros41 5)).drew X.heap.size (heap_alloc_new X _)
  have hcl := HC
  clear HC hcl
  go_region_with (first
    | (go_at_call 22
       first | refine (valueD hD hl ?_).mono ?_ | refine (valueD hD.drew hl ?_).mono ?_ | refine (valueD (hD.alloc _) hl ?_).mono ?_ | refine (valueD (hD.alloc _).drew hl ?_).mono ?_
       omega
       rintro e w2 ⟨t, p, ht, hp, rfl, hD', hg⟩
       try (have hZ := keepZ2 hg hZ hzn; have hcv := conv41 _ _ hZ)
       try (have hZ := keepZ1 hg (Nat.ne_of_gt hD.lt); have hzn := Nat.ne_of_gt hD.lt; have hcv := conv41 _ _ hZ)
       try (have hZ := keepZ1' hg (Nat.ne_of_gt hD.lt); have hzn := Nat.ne_of_gt hD.lt; have hcv := conv41 _ _ hZ)
       clear hg
       have hD := hD'
       clear hD')
    | (go_at_call 12
       first | refine (nextD hD hl ?_).mono ?_ | refine (nextD (hD.alloc _) hl ?_).mono ?_ | refine (nextD ((hD.alloc _).alloc _) hl ?_).mono ?_
       omega
       rintro e w2 ⟨r, hr, rfl, hD', hg⟩
       have hs1 := fun (X : World) (x y z : ByteArray) => cell_six X r hr x y z
       have hs2 := fun (x y z : ByteArray) => sel_get r hr x y z
       have q6 : (r : Int) < 6 := Int.ofNat_lt.2 hr
       try (have hZ := keepZ2 hg hZ hzn; have hcv := conv41 _ _ hZ)
       try (have hZ := keepZ1 hg (Nat.ne_of_gt hD.lt); have hzn := Nat.ne_of_gt hD.lt; have hcv := conv41 _ _ hZ)
       try (have hZ := keepZ1' hg (Nat.ne_of_gt hD.lt); have hzn := Nat.ne_of_gt hD.lt; have hcv := conv41 _ _ hZ)
       try (have hcc := keepC hg r hr (Nat.ne_of_gt hD.lt))
       try (have hcc := keepC hg r hr (Nat.ne_of_gt (hD.alloc _).lt); rw [World.size_alloc] at hcc)
       clear hg
       have hD := hD'
       clear hD'))
  all_goals
    go_wp2
    go_ret
    first
      | refine ⟨_, sel_size r _ _ _ ?_ ?_ ?_, rfl, ?_⟩
      | refine ⟨_, sel_size r _ _ _ ?_ ?_ ?_, congrArg Ending.returned (sel_list r hr _ _ _ _), ?_⟩
    all_goals first | assumption | exact hD.2.2 | exact (hD.alloc _).2.2 | exact ((hD.alloc _).alloc _).2.2
end Drw
end Go.Proofs.YtbnpejijfnigaaaDoor

