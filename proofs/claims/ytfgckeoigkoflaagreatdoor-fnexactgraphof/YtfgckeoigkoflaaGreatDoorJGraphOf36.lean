/- The program's addNode. Condition: the table of rules of nodes lies as its initialiser lays it. -/
import Derived.Test.YtfgckeoigkoflaaGreatDoorJGraphOf19
import Derived.Test.YtfgckeoigkoflaaGreatDoorJGraphOf3
import Derived.Test.YtfgckeoigkoflaaGreatDoorJGraphOf12
import Derived.Test.YtfgckeoigkoflaaGreatDoorJGraphOf33
import Derived.Test.YtfgckeoigkoflaaGreatDoorShelf
import Derived.Deep.RegionLaw
namespace Go.Proofs.YtfgckeoigkoflaaGreatDoor
open Go.RowKit
set_option linter.unusedVariables false
namespace Gr
open Ex (hid nvals nvals_len infoNode at_of_owns owns_keep inR grown_cell2 grown_free2)
open Nd (NodeD)
open Gn (GNodeD)
open Fl (FlowD)
open Nst (own)
open Rc
/-- What a call that adds a node leaves. -/
def NPost (D : Nat) (S : Nat → Prop) (u : Value) (g : GraphD) (x : GNodeD) (w : World) (e : Ending) (w' : World) : Prop := ∃ p S', e = .returned (.pointer (some ⟨p, 0, none⟩)) ∧ DB w' D S' u (addN g x) ∧ Fr w w' D S S' ∧ PtN w' D p g.nodes.length
/-- A step that knows its place, as it is handed over. -/
def sval (at' deep : Int) (kv : Value) (kd par : Int) (nm : ByteArray) (arg : Int) (vc ve : Value) : Value := .agg #[.int .i64 at', .int .i64 deep, kv, .int .i64 kd, .int .i64 par, .string nm, .int .i64 arg, vc, ve]
theorem infoPtr : (Tryz.prog.info? 55).map (fun i => (i.zero, i.size, i.bytes)) = some (some (.pointer none), 1, 8) := by kernel_rfl
theorem ownsNil (w : World) (B : Nat) : w.ownsRow B 115 4 (.slice none 0 0) 0 (nvals []) := World.ownsRow_nil w B _ _
theorem blk2 (w : World) (r o : Obj) : ((w.alloc r).alloc o).heap[w.heap.size + 1]? = some o := by
  have := heap_alloc_new (w.alloc r) o
  rwa [World.size_alloc] at this
theorem blk2_set {w : World} {b i : Nat} {cs : Array Value} {t : TypeId} (h : w.heap[b]? = some (.cells cs t (0, 0))) (v : Value) : (w.setCell ⟨b, i, none⟩ v).heap[b]? = some (.cells (cs.setIfInBounds i v) t (0, 0)) := by
  simp [World.setCell, Array.getElem?_modify, h]
theorem bcell {w : World} {b : Nat} {cs : Array Value} {t : TypeId} {fr : Nat × Nat} (h : w.heap[b]? = some (.cells cs t fr)) (i : Nat) : w.cell? ⟨b, i, none⟩ = cs[i]? := by simp [World.cell?, h]
theorem bfree {w : World} {b : Nat} {cs : Array Value} {t : TypeId} (h : w.heap[b]? = some (.cells cs t (0, 0))) (i : Nat) : w.frozen? ⟨b, i, none⟩ = false := by simp [World.frozen?, h]
theorem new_at (w : World) (o : Obj) {b : Nat} (h : b = w.heap.size) : (w.alloc o).heap[b]? = some o := by subst h; exact heap_alloc_new w o
/-- One pointer in a block of its own, as a row that is appended. -/
theorem one_ptr {w : World} {b p : Nat} {t : TypeId} (h : w.heap[b]? = some (.cells #[.pointer (some ⟨p, 0, none⟩)] t (0, 0))) : Ap.Row w 1 (.slice (some ⟨b, 0, none⟩) 1 1) 1 [.pointer (some ⟨p, 0, none⟩)] :=
  ⟨_, _, rfl, rfl, fun u hu => by simp at hu; subst hu; rfl, .inr ⟨_, rfl, World.news_of_block h⟩⟩
set_option maxRecDepth 100000 in
set_option maxHeartbeats 16000000 in
theorem addNodeA (D : Nat) (S : Nat → Prop) (u : Value) (g : GraphD) (k : Int) (wd : ByteArray) (at' deep kd par arg : Int) (nm : ByteArray) (ak ac ae : Option Addr) (lk lc le ck cc ce : Nat) (w : World) (h : DB w D S u g) (hR : NRul w) (hin : inR k 1 13 = true) (hrow : (nruleD k).row = #[.string wd, .bool false, .bool false, .bool false, .bool false]) (hn : g.nodes.length ≤ 1000000000000) :
    Calls Tryz.prog 18 #[.pointer (some ⟨D, 0, none⟩), .int .i64 k, sval at' deep (.slice ak lk ck) kd par nm arg (.slice ac lc cc) (.slice ae le ce)] w (NPost D S u g ⟨k, 0, ⟨#[]⟩, 0, []⟩ w) := by
  obtain ⟨j0, hj, hy0, hy1, hy2⟩ := inf_parts2 infoPtr
  obtain ⟨vn, M, pn, E, fs, hx, hS⟩ := h
  obtain rfl : S = (fun b => b = M ∨ own vn b) := funext fun b => propext (hS b)
  obtain ⟨a, cap, rfl⟩ := Nst.own_slice hx.row
  have hD := hx.lt
  have hneD : (Value.slice a g.nodes.length cap).ownBlock ≠ some D := fun e => by have := Nst.own_lt hx.row e; omega
  have hb0 : Below w.heap.size w (w.alloc (.cells #[.int .i64 at', .int .i64 deep, .slice ak lk ck, .int .i64 kd, .int .i64 par, .string nm, .int .i64 arg, .slice ac lc cc, .slice ae le ce] 61)) := (Below.refl _ w).alloc (Nat.le_refl _) _
  have HN := hid (nruleOk k _ hin (hR.below hb0 hR.lt))
  have c1 : w.cell? ⟨D, 1, none⟩ = some (.slice a g.nodes.length cap) := by simp [World.cell?, hx.box]
  have f1 : w.frozen? ⟨D, 1, none⟩ = false := by simp [World.frozen?, hx.box]
  have HX := hid hx
  rw [hrow] at HN
  clear hx hS hR hin hrow
  unfold sval
  go_enter Tryz.func18, Tryz.ntmps18
  go_wp2_with (first
    | (go_at_call 40; refine HN.out.mono ?_; rintro e w1 ⟨rfl, hb1⟩; have hb1w := hb0.trans (hb1.mono hb0.size); have d1 := old_cell hb1w hD c1; have d2 := old_free hb1w hD f1; have hD1 : D < w1.heap.size := Nat.lt_of_lt_of_le hD hb1w.size; have hsz1 : w.heap.size < w1.heap.size := Nat.lt_of_lt_of_le (by simp) hb1.size; have hbx : w1.heap[w.heap.size]? = some (.cells #[.int .i64 at', .int .i64 deep, .slice ak lk ck, .int .i64 kd, .int .i64 par, .string nm, .int .i64 arg, .slice ac lc cc, .slice ae le ce] 61 (0, 0)) := (hb1.block _ (by simp)).trans (heap_alloc_new w _)
       have hb2 : Below w.heap.size w ((w1.alloc (.cells #[.string wd, .bool false, .bool false, .bool false, .bool false] 92)).alloc (.cells #[.int .i64 k, .int .i64 0, .string ⟨#[]⟩, .int .i64 0, .slice none 0 0, .int .i64 (g.nodes.length : Int)] 96)) := ((hb1w.alloc hb1w.size _).alloc (by have := hb1w.size; simp; omega) _)
       have hba := hb2.alloc hb2.size (.cells #[.pointer (some ⟨w1.heap.size + 1, 0, none⟩)] 55)
       have HB2 := hid hb2
       have HBA := hid hba
       have HP : Hid (((w1.alloc (.cells #[.string wd, .bool false, .bool false, .bool false, .bool false] 92)).alloc (.cells #[.int .i64 k, .int .i64 0, .string ⟨#[]⟩, .int .i64 0, .slice none 0 0, .int .i64 (g.nodes.length : Int)] 96)).heap[w1.heap.size + 1]? = some (.cells (nvN ⟨k, 0, ⟨#[]⟩, 0, []⟩ (.slice none 0 0) g.nodes.length) 96 (0, 0))) := hid (blk2 _ _ _)
       have ds : ∀ i v, ([.int .i64 at', .int .i64 deep, .slice ak lk ck, .int .i64 kd, .int .i64 par, .string nm, .int .i64 arg, .slice ac lc cc, .slice ae le ce] : List Value)[i]? = some v → w1.cell? ⟨w.heap.size, i, none⟩ = some v := fun i v hv => by simp [World.cell?, hbx]; simpa using hv
       have s0 := ds 0 _ rfl
       have s5 := ds 5 _ rfl
       have s6 := ds 6 _ rfl
       have s8 := ds 8 _ rfl
       clear hb2 hba hb1 hbx ds)
    | (at_builtin; go_must (refine Ap.wpList_any _ rfl _ _ 52 rfl (D + 1) 55 j0 (.pointer none) 1 8 Tryz.underlying52 hj hy0 hy1 hy2 rfl (by omega) (.slice a g.nodes.length cap) g.nodes.length (ptrs pn g.nodes.length) rfl (owns_keep HX.out.row HBA.out) (.slice (some ⟨w1.heap.size + 1 + 1, 0, none⟩) 1 1) 1 [.pointer (some ⟨w1.heap.size + 1, 0, none⟩)] rfl (one_ptr (t := 55) (new_at _ _ (by simp))) (by unfold maxLen; omega) (by omega) (Nat.le_trans (show D + 1 ≤ w.heap.size from hD) HBA.out.size) _ rfl ?_; intro a2 c2 w2 hown2 hg2 hat2; have z1 := grown_cell2 hg2 (old_cell HBA.out hD c1) hneD; have z2 := grown_free2 hg2 (Nat.lt_of_lt_of_le hD HBA.out.size) (old_free HBA.out hD f1) hneD; have HO2 := hid hown2; have HG2 := hid hg2; have HA2 := hid hat2; clear hown2 hg2 hat2)))
  go_ret
  obtain ⟨S', q1, q2, q3⟩ := drawn_node (x := ⟨k, 0, ⟨#[]⟩, 0, []⟩) (ve := .slice none 0 0) HX.out HB2.out ((Below.refl _ _).alloc (Nat.le_refl _) (.cells #[.pointer (some ⟨w1.heap.size + 1, 0, none⟩)] 55)) (by omega) HP.out (ownsNil _ _) HO2.out HG2.out HA2.out
  exact ⟨_, S', rfl, q1, q2, q3⟩
set_option maxRecDepth 100000 in
set_option maxHeartbeats 16000000 in
theorem addNodeB (D : Nat) (S : Nat → Prop) (u : Value) (g : GraphD) (k : Int) (wd : ByteArray) (at' deep kd par arg : Int) (nm : ByteArray) (ak ac ae : Option Addr) (lk lc le ck cc ce : Nat) (w : World) (h : DB w D S u g) (hR : NRul w) (hin : inR k 1 13 = true) (hrow : (nruleD k).row = #[.string wd, .bool true, .bool false, .bool false, .bool false]) (hn : g.nodes.length ≤ 1000000000000) :
    Calls Tryz.prog 18 #[.pointer (some ⟨D, 0, none⟩), .int .i64 k, sval at' deep (.slice ak lk ck) kd par nm arg (.slice ac lc cc) (.slice ae le ce)] w (NPost D S u g ⟨k, at', ⟨#[]⟩, 0, []⟩ w) := by
  obtain ⟨j0, hj, hy0, hy1, hy2⟩ := inf_parts2 infoPtr
  obtain ⟨vn, M, pn, E, fs, hx, hS⟩ := h
  obtain rfl : S = (fun b => b = M ∨ own vn b) := funext fun b => propext (hS b)
  obtain ⟨a, cap, rfl⟩ := Nst.own_slice hx.row
  have hD := hx.lt
  have hneD : (Value.slice a g.nodes.length cap).ownBlock ≠ some D := fun e => by have := Nst.own_lt hx.row e; omega
  have hb0 : Below w.heap.size w (w.alloc (.cells #[.int .i64 at', .int .i64 deep, .slice ak lk ck, .int .i64 kd, .int .i64 par, .string nm, .int .i64 arg, .slice ac lc cc, .slice ae le ce] 61)) := (Below.refl _ w).alloc (Nat.le_refl _) _
  have HN := hid (nruleOk k _ hin (hR.below hb0 hR.lt))
  have c1 : w.cell? ⟨D, 1, none⟩ = some (.slice a g.nodes.length cap) := by simp [World.cell?, hx.box]
  have f1 : w.frozen? ⟨D, 1, none⟩ = false := by simp [World.frozen?, hx.box]
  have HX := hid hx
  rw [hrow] at HN
  clear hx hS hR hin hrow
  unfold sval
  go_enter Tryz.func18, Tryz.ntmps18
  go_wp2_with (first
    | (go_at_call 40; refine HN.out.mono ?_; rintro e w1 ⟨rfl, hb1⟩; have hb1w := hb0.trans (hb1.mono hb0.size); have d1 := old_cell hb1w hD c1; have d2 := old_free hb1w hD f1; have hD1 : D < w1.heap.size := Nat.lt_of_lt_of_le hD hb1w.size; have hsz1 : w.heap.size < w1.heap.size := Nat.lt_of_lt_of_le (by simp) hb1.size; have hbx : w1.heap[w.heap.size]? = some (.cells #[.int .i64 at', .int .i64 deep, .slice ak lk ck, .int .i64 kd, .int .i64 par, .string nm, .int .i64 arg, .slice ac lc cc, .slice ae le ce] 61 (0, 0)) := (hb1.block _ (by simp)).trans (heap_alloc_new w _)
       have hb2 : Below w.heap.size w ((w1.alloc (.cells #[.string wd, .bool true, .bool false, .bool false, .bool false] 92)).alloc (.cells #[.int .i64 k, .int .i64 at', .string ⟨#[]⟩, .int .i64 0, .slice none 0 0, .int .i64 (g.nodes.length : Int)] 96)) := ((hb1w.alloc hb1w.size _).alloc (by have := hb1w.size; simp; omega) _)
       have hba := hb2.alloc hb2.size (.cells #[.pointer (some ⟨w1.heap.size + 1, 0, none⟩)] 55)
       have HB2 := hid hb2
       have HBA := hid hba
       have HP : Hid (((w1.alloc (.cells #[.string wd, .bool true, .bool false, .bool false, .bool false] 92)).alloc (.cells #[.int .i64 k, .int .i64 at', .string ⟨#[]⟩, .int .i64 0, .slice none 0 0, .int .i64 (g.nodes.length : Int)] 96)).heap[w1.heap.size + 1]? = some (.cells (nvN ⟨k, at', ⟨#[]⟩, 0, []⟩ (.slice none 0 0) g.nodes.length) 96 (0, 0))) := hid (blk2 _ _ _)
       have ds : ∀ i v, ([.int .i64 at', .int .i64 deep, .slice ak lk ck, .int .i64 kd, .int .i64 par, .string nm, .int .i64 arg, .slice ac lc cc, .slice ae le ce] : List Value)[i]? = some v → w1.cell? ⟨w.heap.size, i, none⟩ = some v := fun i v hv => by simp [World.cell?, hbx]; simpa using hv
       have s0 := ds 0 _ rfl
       have s5 := ds 5 _ rfl
       have s6 := ds 6 _ rfl
       have s8 := ds 8 _ rfl
       clear hb2 hba hb1 hbx ds)
    | (at_builtin; go_must (refine Ap.wpList_any _ rfl _ _ 52 rfl (D + 1) 55 j0 (.pointer none) 1 8 Tryz.underlying52 hj hy0 hy1 hy2 rfl (by omega) (.slice a g.nodes.length cap) g.nodes.length (ptrs pn g.nodes.length) rfl (owns_keep HX.out.row HBA.out) (.slice (some ⟨w1.heap.size + 1 + 1, 0, none⟩) 1 1) 1 [.pointer (some ⟨w1.heap.size + 1, 0, none⟩)] rfl (one_ptr (t := 55) (new_at _ _ (by simp))) (by unfold maxLen; omega) (by omega) (Nat.le_trans (show D + 1 ≤ w.heap.size from hD) HBA.out.size) _ rfl ?_; intro a2 c2 w2 hown2 hg2 hat2; have z1 := grown_cell2 hg2 (old_cell HBA.out hD c1) hneD; have z2 := grown_free2 hg2 (Nat.lt_of_lt_of_le hD HBA.out.size) (old_free HBA.out hD f1) hneD; have HO2 := hid hown2; have HG2 := hid hg2; have HA2 := hid hat2; clear hown2 hg2 hat2)))
  go_ret
  obtain ⟨S', q1, q2, q3⟩ := drawn_node (x := ⟨k, at', ⟨#[]⟩, 0, []⟩) (ve := .slice none 0 0) HX.out HB2.out ((Below.refl _ _).alloc (Nat.le_refl _) (.cells #[.pointer (some ⟨w1.heap.size + 1, 0, none⟩)] 55)) (by omega) HP.out (ownsNil _ _) HO2.out HG2.out HA2.out
  exact ⟨_, S', rfl, q1, q2, q3⟩
set_option maxRecDepth 100000 in
set_option maxHeartbeats 16000000 in
theorem addNodeC (D : Nat) (S : Nat → Prop) (u : Value) (g : GraphD) (k : Int) (wd : ByteArray) (at' deep kd par arg : Int) (nm : ByteArray) (ak ac ae : Option Addr) (lk lc le ck cc ce : Nat) (w : World) (h : DB w D S u g) (hR : NRul w) (hin : inR k 1 13 = true) (hrow : (nruleD k).row = #[.string wd, .bool true, .bool false, .bool true, .bool false]) (hn : g.nodes.length ≤ 1000000000000) :
    Calls Tryz.prog 18 #[.pointer (some ⟨D, 0, none⟩), .int .i64 k, sval at' deep (.slice ak lk ck) kd par nm arg (.slice ac lc cc) (.slice ae le ce)] w (NPost D S u g ⟨k, at', ⟨#[]⟩, arg, []⟩ w) := by
  obtain ⟨j0, hj, hy0, hy1, hy2⟩ := inf_parts2 infoPtr
  obtain ⟨vn, M, pn, E, fs, hx, hS⟩ := h
  obtain rfl : S = (fun b => b = M ∨ own vn b) := funext fun b => propext (hS b)
  obtain ⟨a, cap, rfl⟩ := Nst.own_slice hx.row
  have hD := hx.lt
  have hneD : (Value.slice a g.nodes.length cap).ownBlock ≠ some D := fun e => by have := Nst.own_lt hx.row e; omega
  have hb0 : Below w.heap.size w (w.alloc (.cells #[.int .i64 at', .int .i64 deep, .slice ak lk ck, .int .i64 kd, .int .i64 par, .string nm, .int .i64 arg, .slice ac lc cc, .slice ae le ce] 61)) := (Below.refl _ w).alloc (Nat.le_refl _) _
  have HN := hid (nruleOk k _ hin (hR.below hb0 hR.lt))
  have c1 : w.cell? ⟨D, 1, none⟩ = some (.slice a g.nodes.length cap) := by simp [World.cell?, hx.box]
  have f1 : w.frozen? ⟨D, 1, none⟩ = false := by simp [World.frozen?, hx.box]
  have HX := hid hx
  rw [hrow] at HN
  clear hx hS hR hin hrow
  unfold sval
  go_enter Tryz.func18, Tryz.ntmps18
  go_wp2_with (first
    | (go_at_call 40; refine HN.out.mono ?_; rintro e w1 ⟨rfl, hb1⟩; have hb1w := hb0.trans (hb1.mono hb0.size); have d1 := old_cell hb1w hD c1; have d2 := old_free hb1w hD f1; have hD1 : D < w1.heap.size := Nat.lt_of_lt_of_le hD hb1w.size; have hsz1 : w.heap.size < w1.heap.size := Nat.lt_of_lt_of_le (by simp) hb1.size; have hbx : w1.heap[w.heap.size]? = some (.cells #[.int .i64 at', .int .i64 deep, .slice ak lk ck, .int .i64 kd, .int .i64 par, .string nm, .int .i64 arg, .slice ac lc cc, .slice ae le ce] 61 (0, 0)) := (hb1.block _ (by simp)).trans (heap_alloc_new w _)
       have hb2 : Below w.heap.size w ((w1.alloc (.cells #[.string wd, .bool true, .bool false, .bool true, .bool false] 92)).alloc (.cells #[.int .i64 k, .int .i64 at', .string ⟨#[]⟩, .int .i64 arg, .slice none 0 0, .int .i64 (g.nodes.length : Int)] 96)) := ((hb1w.alloc hb1w.size _).alloc (by have := hb1w.size; simp; omega) _)
       have hba := hb2.alloc hb2.size (.cells #[.pointer (some ⟨w1.heap.size + 1, 0, none⟩)] 55)
       have HB2 := hid hb2
       have HBA := hid hba
       have HP : Hid (((w1.alloc (.cells #[.string wd, .bool true, .bool false, .bool true, .bool false] 92)).alloc (.cells #[.int .i64 k, .int .i64 at', .string ⟨#[]⟩, .int .i64 arg, .slice none 0 0, .int .i64 (g.nodes.length : Int)] 96)).heap[w1.heap.size + 1]? = some (.cells (nvN ⟨k, at', ⟨#[]⟩, arg, []⟩ (.slice none 0 0) g.nodes.length) 96 (0, 0))) := hid (blk2 _ _ _)
       have ds : ∀ i v, ([.int .i64 at', .int .i64 deep, .slice ak lk ck, .int .i64 kd, .int .i64 par, .string nm, .int .i64 arg, .slice ac lc cc, .slice ae le ce] : List Value)[i]? = some v → w1.cell? ⟨w.heap.size, i, none⟩ = some v := fun i v hv => by simp [World.cell?, hbx]; simpa using hv
       have s0 := ds 0 _ rfl
       have s5 := ds 5 _ rfl
       have s6 := ds 6 _ rfl
       have s8 := ds 8 _ rfl
       clear hb2 hba hb1 hbx ds)
    | (at_builtin; go_must (refine Ap.wpList_any _ rfl _ _ 52 rfl (D + 1) 55 j0 (.pointer none) 1 8 Tryz.underlying52 hj hy0 hy1 hy2 rfl (by omega) (.slice a g.nodes.length cap) g.nodes.length (ptrs pn g.nodes.length) rfl (owns_keep HX.out.row HBA.out) (.slice (some ⟨w1.heap.size + 1 + 1, 0, none⟩) 1 1) 1 [.pointer (some ⟨w1.heap.size + 1, 0, none⟩)] rfl (one_ptr (t := 55) (new_at _ _ (by simp))) (by unfold maxLen; omega) (by omega) (Nat.le_trans (show D + 1 ≤ w.heap.size from hD) HBA.out.size) _ rfl ?_; intro a2 c2 w2 hown2 hg2 hat2; have z1 := grown_cell2 hg2 (old_cell HBA.out hD c1) hneD; have z2 := grown_free2 hg2 (Nat.lt_of_lt_of_le hD HBA.out.size) (old_free HBA.out hD f1) hneD; have HO2 := hid hown2; have HG2 := hid hg2; have HA2 := hid hat2; clear hown2 hg2 hat2)))
  go_ret
  obtain ⟨S', q1, q2, q3⟩ := drawn_node (x := ⟨k, at', ⟨#[]⟩, arg, []⟩) (ve := .slice none 0 0) HX.out HB2.out ((Below.refl _ _).alloc (Nat.le_refl _) (.cells #[.pointer (some ⟨w1.heap.size + 1, 0, none⟩)] 55)) (by omega) HP.out (ownsNil _ _) HO2.out HG2.out HA2.out
  exact ⟨_, S', rfl, q1, q2, q3⟩
theorem cloneN (s : ByteArray) (w : World) (h : s.size ≤ 1048576) : Calls Tryz.prog 41 #[.string s] w fun e w' => e = .returned (.string s) ∧ Below w.heap.size w w' := by
  go_enter Tryz.func41, Tryz.ntmps41
  go_wp2_with fail
  refine (Tryz.stringslite_Clone s _ (by omega)).mono ?_
  rintro e w1 ⟨rfl, hb1⟩
  go_wp2
  go_ret
  exact ⟨rfl, hb1⟩
set_option maxRecDepth 100000 in
set_option maxHeartbeats 16000000 in
theorem addNodeD (D : Nat) (S : Nat → Prop) (u : Value) (g : GraphD) (k : Int) (wd : ByteArray) (at' deep kd par arg : Int) (nm : ByteArray) (ak ac ae : Option Addr) (lk lc le ck cc ce : Nat) (w : World) (h : DB w D S u g) (hR : NRul w) (hin : inR k 1 13 = true) (hrow : (nruleD k).row = #[.string wd, .bool true, .bool true, .bool false, .bool false]) (hn : g.nodes.length ≤ 1000000000000) (hnm : nm.size ≤ 1048576) :
    Calls Tryz.prog 18 #[.pointer (some ⟨D, 0, none⟩), .int .i64 k, sval at' deep (.slice ak lk ck) kd par nm arg (.slice ac lc cc) (.slice ae le ce)] w (NPost D S u g ⟨k, at', nm, 0, []⟩ w) := by
  obtain ⟨j0, hj, hy0, hy1, hy2⟩ := inf_parts2 infoPtr
  obtain ⟨vn, M, pn, E, fs, hx, hS⟩ := h
  obtain rfl : S = (fun b => b = M ∨ own vn b) := funext fun b => propext (hS b)
  obtain ⟨a, cap, rfl⟩ := Nst.own_slice hx.row
  have hD := hx.lt
  have hneD : (Value.slice a g.nodes.length cap).ownBlock ≠ some D := fun e => by have := Nst.own_lt hx.row e; omega
  have hb0 : Below w.heap.size w (w.alloc (.cells #[.int .i64 at', .int .i64 deep, .slice ak lk ck, .int .i64 kd, .int .i64 par, .string nm, .int .i64 arg, .slice ac lc cc, .slice ae le ce] 61)) := (Below.refl _ w).alloc (Nat.le_refl _) _
  have HN := hid (nruleOk k _ hin (hR.below hb0 hR.lt))
  have c1 : w.cell? ⟨D, 1, none⟩ = some (.slice a g.nodes.length cap) := by simp [World.cell?, hx.box]
  have f1 : w.frozen? ⟨D, 1, none⟩ = false := by simp [World.frozen?, hx.box]
  have HX := hid hx
  rw [hrow] at HN
  clear hx hS hR hin hrow
  unfold sval
  go_enter Tryz.func18, Tryz.ntmps18
  go_wp2_with (first
    | (go_at_call 40; refine HN.out.mono ?_; rintro e w1 ⟨rfl, hb1⟩; have hb1w := hb0.trans (hb1.mono hb0.size); have d1 := old_cell hb1w hD c1; have d2 := old_free hb1w hD f1; have hD1 : D < w1.heap.size := Nat.lt_of_lt_of_le hD hb1w.size; have hsz1 : w.heap.size < w1.heap.size := Nat.lt_of_lt_of_le (by simp) hb1.size; have hbx : w1.heap[w.heap.size]? = some (.cells #[.int .i64 at', .int .i64 deep, .slice ak lk ck, .int .i64 kd, .int .i64 par, .string nm, .int .i64 arg, .slice ac lc cc, .slice ae le ce] 61 (0, 0)) := (hb1.block _ (by simp)).trans (heap_alloc_new w _)
       have hb2 : Below w.heap.size w ((w1.alloc (.cells #[.string wd, .bool true, .bool true, .bool false, .bool false] 92)).alloc (.cells #[.int .i64 k, .int .i64 at', .string ⟨#[]⟩, .int .i64 0, .slice none 0 0, .int .i64 (g.nodes.length : Int)] 96)) := ((hb1w.alloc hb1w.size _).alloc (by have := hb1w.size; simp; omega) _)
       have HB2 := hid hb2
       have HC := hid (cloneN nm ((w1.alloc (.cells #[.string wd, .bool true, .bool true, .bool false, .bool false] 92)).alloc (.cells #[.int .i64 k, .int .i64 at', .string ⟨#[]⟩, .int .i64 0, .slice none 0 0, .int .i64 (g.nodes.length : Int)] 96)) hnm)
       have ds : ∀ i v, ([.int .i64 at', .int .i64 deep, .slice ak lk ck, .int .i64 kd, .int .i64 par, .string nm, .int .i64 arg, .slice ac lc cc, .slice ae le ce] : List Value)[i]? = some v → w1.cell? ⟨w.heap.size, i, none⟩ = some v := fun i v hv => by simp [World.cell?, hbx]; simpa using hv
       have s0 := ds 0 _ rfl
       have s5 := ds 5 _ rfl
       have s6 := ds 6 _ rfl
       have s8 := ds 8 _ rfl
       clear hb2 hb1 hbx ds)
    | (go_at_call 41; refine HC.out.mono ?_; rintro e w3 ⟨rfl, hb3⟩; have hX3 := HB2.out.trans (hb3.mono HB2.out.size); have e1 := old_cell hX3 hD c1; have e2 := old_free hX3 hD f1
       have hsz3 : w1.heap.size + 1 < w3.heap.size := Nat.lt_of_lt_of_le (by simp) hb3.size
       have hq3 : w3.heap[w1.heap.size + 1]? = some (.cells #[.int .i64 k, .int .i64 at', .string ⟨#[]⟩, .int .i64 0, .slice none 0 0, .int .i64 (g.nodes.length : Int)] 96) := (hb3.block _ (by simp)).trans (blk2 _ _ _)
       have q2 : w3.cell? ⟨w1.heap.size + 1, 2, none⟩ = some (.string ⟨#[]⟩) := by simp [World.cell?, hq3]
       have q3 : w3.frozen? ⟨w1.heap.size + 1, 2, none⟩ = false := by simp [World.frozen?, hq3]
       have hr3 : w3.heap[w1.heap.size]? = some (.cells #[.string wd, .bool true, .bool true, .bool false, .bool false] 92) := (hb3.block _ (by simp; omega)).trans ((Below.heap_alloc _ _ _ (by simp)).trans (heap_alloc_new w1 _))
       have r3 : w3.cell? ⟨w1.heap.size, 3, none⟩ = some (.bool false) := by simp [World.cell?, hr3]
       have r4 : w3.cell? ⟨w1.heap.size, 4, none⟩ = some (.bool false) := by simp [World.cell?, hr3]
       have hDp : D ≠ w1.heap.size + 1 := by omega
       have hp3 := blk2_set (i := 2) hq3 (.string nm)
       have hx3 := hX3.setCell (p := ⟨w1.heap.size + 1, 2, none⟩) (by have := hb1w.size; dsimp only; omega) (.string nm)
       have hba := hx3.alloc hx3.size (.cells #[.pointer (some ⟨w1.heap.size + 1, 0, none⟩)] 55)
       have HBX := hid hx3
       have HBA := hid hba
       have HP : Hid ((w3.setCell ⟨w1.heap.size + 1, 2, none⟩ (.string nm)).heap[w1.heap.size + 1]? = some (.cells (nvN ⟨k, at', nm, 0, []⟩ (.slice none 0 0) g.nodes.length) 96 (0, 0))) := hid (hp3.trans rfl)
       clear hX3 hx3 hba hb3 hq3 hr3 hp3)
    | (at_builtin; go_must (refine Ap.wpList_any _ rfl _ _ 52 rfl (D + 1) 55 j0 (.pointer none) 1 8 Tryz.underlying52 hj hy0 hy1 hy2 rfl (by omega) (.slice a g.nodes.length cap) g.nodes.length (ptrs pn g.nodes.length) rfl (owns_keep HX.out.row HBA.out) (.slice (some ⟨w3.heap.size, 0, none⟩) 1 1) 1 [.pointer (some ⟨w1.heap.size + 1, 0, none⟩)] rfl (one_ptr (t := 55) (new_at _ _ (by simp))) (by unfold maxLen; omega) (by omega) (Nat.le_trans (show D + 1 ≤ w.heap.size from hD) HBA.out.size) _ rfl ?_; intro a2 c2 w2 hown2 hg2 hat2; have z1 := grown_cell2 hg2 (old_cell HBA.out hD c1) hneD; have z2 := grown_free2 hg2 (Nat.lt_of_lt_of_le hD HBA.out.size) (old_free HBA.out hD f1) hneD; have HO2 := hid hown2; have HG2 := hid hg2; have HA2 := hid hat2; clear hown2 hg2 hat2)))
  go_ret
  obtain ⟨S', q1, q2, q3⟩ := drawn_node (x := ⟨k, at', nm, 0, []⟩) (ve := .slice none 0 0) HX.out HBX.out ((Below.refl _ _).alloc (Nat.le_refl _) (.cells #[.pointer (some ⟨w1.heap.size + 1, 0, none⟩)] 55)) (by omega) HP.out (ownsNil _ _) HO2.out HG2.out HA2.out
  exact ⟨_, S', rfl, q1, q2, q3⟩
set_option maxRecDepth 100000 in
set_option maxHeartbeats 16000000 in
theorem addNodeE (D : Nat) (S : Nat → Prop) (u : Value) (g : GraphD) (k : Int) (wd : ByteArray) (at' deep kd par arg : Int) (nm : ByteArray) (ak ac ae : Option Addr) (lk lc ck cc ce : Nat) (w : World) (h : DB w D S u g) (hR : NRul w) (hin : inR k 1 13 = true) (hrow : (nruleD k).row = #[.string wd, .bool true, .bool false, .bool true, .bool true]) (hn : g.nodes.length ≤ 1000000000000) (B : Nat) (ex : List NodeD) (hex : Nd.At w B (.slice ae ex.length ce) ex) (hel : ex.length ≤ 100000) :
    Calls Tryz.prog 18 #[.pointer (some ⟨D, 0, none⟩), .int .i64 k, sval at' deep (.slice ak lk ck) kd par nm arg (.slice ac lc cc) (.slice ae ex.length ce)] w (NPost D S u g ⟨k, at', ⟨#[]⟩, arg, ex⟩ w) := by
  obtain ⟨j0, hj, hy0, hy1, hy2⟩ := inf_parts2 infoPtr
  obtain ⟨vn, M, pn, E, fs, hx, hS⟩ := h
  obtain rfl : S = (fun b => b = M ∨ own vn b) := funext fun b => propext (hS b)
  obtain ⟨a, cap, rfl⟩ := Nst.own_slice hx.row
  have hD := hx.lt
  have hneD : (Value.slice a g.nodes.length cap).ownBlock ≠ some D := fun e => by have := Nst.own_lt hx.row e; omega
  have hb0 : Below w.heap.size w (w.alloc (.cells #[.int .i64 at', .int .i64 deep, .slice ak lk ck, .int .i64 kd, .int .i64 par, .string nm, .int .i64 arg, .slice ac lc cc, .slice ae ex.length ce] 61)) := (Below.refl _ w).alloc (Nat.le_refl _) _
  have HN := hid (nruleOk k _ hin (hR.below hb0 hR.lt))
  have c1 : w.cell? ⟨D, 1, none⟩ = some (.slice a g.nodes.length cap) := by simp [World.cell?, hx.box]
  have f1 : w.frozen? ⟨D, 1, none⟩ = false := by simp [World.frozen?, hx.box]
  have HX := hid hx
  rw [hrow] at HN
  clear hx hS hR hin hrow
  obtain ⟨i0, hi, hz0, hz1, hz2⟩ := inf_parts2 infoNode
  have HER := hid (row_of_at hex)
  clear hex
  unfold sval
  go_enter Tryz.func18, Tryz.ntmps18
  go_wp2_with (first
    | (go_at_call 40; refine HN.out.mono ?_; rintro e w1 ⟨rfl, hb1⟩; have hb1w := hb0.trans (hb1.mono hb0.size); have d1 := old_cell hb1w hD c1; have d2 := old_free hb1w hD f1; have hD1 : D < w1.heap.size := Nat.lt_of_lt_of_le hD hb1w.size; have hsz1 : w.heap.size < w1.heap.size := Nat.lt_of_lt_of_le (by simp) hb1.size; have hbx : w1.heap[w.heap.size]? = some (.cells #[.int .i64 at', .int .i64 deep, .slice ak lk ck, .int .i64 kd, .int .i64 par, .string nm, .int .i64 arg, .slice ac lc cc, .slice ae ex.length ce] 61 (0, 0)) := (hb1.block _ (by simp)).trans (heap_alloc_new w _)
       have hb2 : Below w.heap.size w ((w1.alloc (.cells #[.string wd, .bool true, .bool false, .bool true, .bool true] 92)).alloc (.cells #[.int .i64 k, .int .i64 at', .string ⟨#[]⟩, .int .i64 arg, .slice none 0 0, .int .i64 (g.nodes.length : Int)] 96)) := ((hb1w.alloc hb1w.size _).alloc (by have := hb1w.size; simp; omega) _)
       have HB2 := hid hb2
       have HRW := hid (Row_kept HER.out hb2)
       have hq2 : ((w1.alloc (.cells #[.string wd, .bool true, .bool false, .bool true, .bool true] 92)).alloc (.cells #[.int .i64 k, .int .i64 at', .string ⟨#[]⟩, .int .i64 arg, .slice none 0 0, .int .i64 (g.nodes.length : Int)] 96)).heap[w1.heap.size + 1]? = some (.cells #[.int .i64 k, .int .i64 at', .string ⟨#[]⟩, .int .i64 arg, .slice none 0 0, .int .i64 (g.nodes.length : Int)] 96) := blk2 _ _ _
       have n4 : ((w1.alloc (.cells #[.string wd, .bool true, .bool false, .bool true, .bool true] 92)).alloc (.cells #[.int .i64 k, .int .i64 at', .string ⟨#[]⟩, .int .i64 arg, .slice none 0 0, .int .i64 (g.nodes.length : Int)] 96)).cell? ⟨w1.heap.size + 1, 4, none⟩ = some (.slice none 0 0) := bcell hq2 4
       have n4f : ((w1.alloc (.cells #[.string wd, .bool true, .bool false, .bool true, .bool true] 92)).alloc (.cells #[.int .i64 k, .int .i64 at', .string ⟨#[]⟩, .int .i64 arg, .slice none 0 0, .int .i64 (g.nodes.length : Int)] 96)).frozen? ⟨w1.heap.size + 1, 4, none⟩ = false := bfree hq2 4
       have HQ2 := hid hq2
       have hlq : w1.heap.size + 1 < ((w1.alloc (.cells #[.string wd, .bool true, .bool false, .bool true, .bool true] 92)).alloc (.cells #[.int .i64 k, .int .i64 at', .string ⟨#[]⟩, .int .i64 arg, .slice none 0 0, .int .i64 (g.nodes.length : Int)] 96)).heap.size := by simp
       have ds : ∀ i v, ([.int .i64 at', .int .i64 deep, .slice ak lk ck, .int .i64 kd, .int .i64 par, .string nm, .int .i64 arg, .slice ac lc cc, .slice ae ex.length ce] : List Value)[i]? = some v → w1.cell? ⟨w.heap.size, i, none⟩ = some v := fun i v hv => by simp [World.cell?, hbx]; simpa using hv
       have s0 := ds 0 _ rfl
       have s5 := ds 5 _ rfl
       have s6 := ds 6 _ rfl
       have s8 := ds 8 _ rfl
       have s8q : ((w1.alloc (.cells #[.string wd, .bool true, .bool false, .bool true, .bool true] 92)).alloc (.cells #[.int .i64 k, .int .i64 at', .string ⟨#[]⟩, .int .i64 arg, .slice none 0 0, .int .i64 (g.nodes.length : Int)] 96)).cell? ⟨w.heap.size, 8, none⟩ = some (.slice ae ex.length ce) := by rw [(((Below.refl w1.heap.size w1).alloc (Nat.le_refl _) _).alloc (by simp) _).cell (p := ⟨w.heap.size, 8, none⟩) hsz1]; exact s8
       clear hb2 hb1 hbx ds hq2))
  have hr := HRW.out
  generalize ((w1.alloc (.cells #[.string wd, .bool true, .bool false, .bool true, .bool true] 92)).alloc (.cells #[.int .i64 k, .int .i64 at', .string ⟨#[]⟩, .int .i64 arg, .slice none 0 0, .int .i64 (g.nodes.length : Int)] 96)) = wq at *
  have hbd : Below wq.heap.size wq wq.drew := (Below.refl _ wq).drew
  have hrd := Row_kept hr hbd
  have hlw : w.heap.size ≤ wq.heap.size := HB2.out.size
  go_region_law
    (first | (refine Ap.step_any _ (by rfl) _ _ 44 (by rfl) w.heap.size 115 i0 _ 4 32 Tryz.underlying44 hi hz0 hz1 hz2 rfl (by omega) (.slice none 0 0) 0 [] (by rfl) (World.ownsRow_nil _ _ _ _) (.slice ae ex.length ce) ex.length (nvals ex) (by rfl) hrd (by unfold maxLen; omega) (by omega) hlw wq.heap.size (by rfl) ?_; intro a3 c3 w3 hown3 hg3 hat3; simp only [Nat.zero_add, List.nil_append] at hown3 hat3 ⊢; have hb3 : Below wq.heap.size wq w3 := hbd.grown hg3 hbd.size (fun b e => by cases e); have q4 := old_cell hb3 hlq n4; have q4f := old_free hb3 hlq n4f; have HOE0 := hid hown3; have HB3 := hid hb3; clear hown3 hg3 hat3))
  all_goals
    have hX3 := HB2.out.trans (HB3.out.mono HB2.out.size)
    have e1 := old_cell hX3 hD c1
    have e2 := old_free hX3 hD f1
    have hDp : D ≠ w1.heap.size + 1 := by omega
    have hlp3 : w1.heap.size + 1 < w3.heap.size := Nat.lt_of_lt_of_le hlq HB3.out.size
    have hp3 := blk2_set (i := 4) ((HB3.out.block _ hlq).trans HQ2.out) (.slice a3 ex.length c3)
    have hx3 := hX3.setCell (p := ⟨w1.heap.size + 1, 4, none⟩) (by have := hb1w.size; dsimp only; omega) (.slice a3 ex.length c3)
    have hba := hx3.alloc hx3.size (.cells #[.pointer (some ⟨w1.heap.size + 1, 0, none⟩)] 55)
    have HBX := hid hx3
    have HBA := hid hba
    have HP : Hid ((w3.setCell ⟨w1.heap.size + 1, 4, none⟩ (.slice a3 ex.length c3)).heap[w1.heap.size + 1]? = some (.cells (nvN ⟨k, at', ⟨#[]⟩, arg, ex⟩ (.slice a3 ex.length c3) g.nodes.length) 96 (0, 0))) := hid (hp3.trans rfl)
    have HOE : Hid ((w3.setCell ⟨w1.heap.size + 1, 4, none⟩ (.slice a3 ex.length c3)).ownsRow w.heap.size 115 4 (.slice a3 ex.length c3) ex.length (nvals ex)) := hid (Nst.own_kept HOE0.out (fun b e => Below.heap_setCell _ _ _ _ (by
      intro e2
      have e3 : b = w1.heap.size + 1 := e2
      have h4 := (HB3.out.block _ hlq).trans HQ2.out
      obtain ⟨_, ⟨e4, _⟩ | ⟨gg, cap2, cu, e4, _, h5, _⟩⟩ := HOE0.out
      · rw [e4] at e; cases e
      · rw [e4] at e
        obtain rfl : gg = b := Option.some.inj e
        rw [e3, h4] at h5
        have := Option.some.inj h5
        simp at this)))
    clear hX3 hx3 hba hp3 hrd hr hbd
    go_wp2_with (at_builtin; go_must (refine Ap.wpList_any _ rfl _ _ 52 rfl (D + 1) 55 j0 (.pointer none) 1 8 Tryz.underlying52 hj hy0 hy1 hy2 rfl (by omega) (.slice a g.nodes.length cap) g.nodes.length (ptrs pn g.nodes.length) rfl (owns_keep HX.out.row HBA.out) (.slice (some ⟨w3.heap.size, 0, none⟩) 1 1) 1 [.pointer (some ⟨w1.heap.size + 1, 0, none⟩)] rfl (one_ptr (t := 55) (new_at _ _ (by simp))) (by unfold maxLen; omega) (by omega) (Nat.le_trans (show D + 1 ≤ w.heap.size from hD) HBA.out.size) _ rfl ?_; intro a2 c2 w2 hown2 hg2 hat2; have z1 := grown_cell2 hg2 (old_cell HBA.out hD c1) hneD; have z2 := grown_free2 hg2 (Nat.lt_of_lt_of_le hD HBA.out.size) (old_free HBA.out hD f1) hneD; have HO2 := hid hown2; have HG2 := hid hg2; have HA2 := hid hat2; clear hown2 hg2 hat2))
    go_ret
    obtain ⟨S', q1, q2, q3⟩ := drawn_node (x := ⟨k, at', ⟨#[]⟩, arg, ex⟩) (ve := .slice a3 ex.length c3) HX.out HBX.out ((Below.refl _ _).alloc (Nat.le_refl _) (.cells #[.pointer (some ⟨w1.heap.size + 1, 0, none⟩)] 55)) (by omega) HP.out HOE.out HO2.out HG2.out HA2.out
    exact ⟨_, S', rfl, q1, q2, q3⟩
end Gr
end Go.Proofs.YtfgckeoigkoflaaGreatDoor
