/- fillTree of the program. -/
import Derived.Test.YtccklgopcjilcaaGreatDoorJCT15
namespace Go.Proofs.YtccklgopcjilcaaGreatDoor
open Go.RowKit
set_option linter.unusedVariables false
namespace Pt
open Ex (hid)
open Nd (NodeD)
open St (StepD)
open Tr (Chain cutTo onPath top ElemD cut_le)
def fcode (n : Nat) (S : List Nat) (p : Int) : Int := if pfault n S p ≠ 0 then pfault n S p else if 7 < (cutTo p S).length + 1 then 2 else 0
/-- Nothing has turned but what the tree owns. -/
structure KeptOff (w w' : World) (v : Value) (n : Nat) (T : Nat → Br) : Prop where
  os : w'.os = w.os
  tape : w'.tape = w.tape
  output : w'.output = w.output
  size : w.heap.size ≤ w'.heap.size
  block : ∀ b, b < w.heap.size → Off v n T b → w'.heap[b]? = w.heap[b]?
theorem off_low {w : World} {B : Nat} {v : Value} {n : Nat} {T : Nat → Br} (h : TreeAt w B v n T) {b : Nat} (hb : b < B) : Off v n T b :=
  ⟨fun e => by have := (own_lt h.row e).1; omega, fun j hj e => by have := (own_lt (h.kids j hj) e).1; omega⟩
theorem off_new {w : World} {B : Nat} {v : Value} {n : Nat} {T : Nat → Br} (h : TreeAt w B v n T) {b : Nat} (hb : w.heap.size ≤ b) : Off v n T b :=
  ⟨fun e => by have := (own_lt h.row e).2; omega, fun j hj e => by have := (own_lt (h.kids j hj) e).2; omega⟩
theorem KeptOff.below {w w' : World} {B : Nat} {v : Value} {n : Nat} {T : Nat → Br} (h : KeptOff w w' v n T) (ht : TreeAt w B v n T) (hB : B ≤ w.heap.size) : Below B w w' :=
  ⟨h.os, h.tape, h.output, h.size, fun b hb => h.block b (by omega) (off_low ht hb)⟩
theorem KeptOff.of_below {w w' : World} {v : Value} {n : Nat} {T : Nat → Br} (h : Below w.heap.size w w') : KeptOff w w' v n T := ⟨h.os, h.tape, h.output, h.size, fun b hb _ => h.block b hb⟩
/-- How the tree has grown. -/
structure Grew (T T' : Nat → Br) (n : Nat) (b : Br) : Prop where
  old : ∀ j, j < n → T' j = { T j with kv := (T' j).kv, kids := (T j).kids ++ (if (j : Int) = b.par then [n] else []) }
  new : T' n = b
theorem infoBranch : (Tryz.prog.info? 262).map (fun i => (i.zero, i.size, i.bytes)) = some (some (.agg #[.int .i64 0, .int .i64 0, .string { data := #[] }, .int .i64 0, .slice none 0 0, .slice none 0 0, .int .i64 0, .int .i64 0, .slice none 0 0]), 9, 128) := by kernel_rfl
theorem infoI64 : (Tryz.prog.info? 2).map (fun i => (i.zero, i.size, i.bytes)) = some (some (.int .i64 0), 1, 8) := by kernel_rfl
theorem info_parts {P : Program} {e : TypeId} {z : Value} {sz bytes : Nat} (h : (P.info? e).map (fun i => (i.zero, i.size, i.bytes)) = some (some z, sz, bytes)) : ∃ i, P.info? e = some i ∧ i.zero = some z ∧ i.size = sz ∧ i.bytes = bytes := by
  cases hi : P.info? e with
  | none => rw [hi] at h; cases h
  | some i =>
    rw [hi] at h
    simp only [Option.map_some, Option.some.injEq, Prod.mk.injEq] at h
    exact ⟨i, rfl, h.1, h.2.1, h.2.2⟩
theorem cell_nine (w : World) (b : Nat) (hb : b = w.heap.size) (x0 x1 x2 x3 x4 x5 x6 x7 x8 : Value) (t : TypeId) : ∀ j u, [x0, x1, x2, x3, x4, x5, x6, x7, x8][j]? = some u → (w.alloc (.cells #[x0, x1, x2, x3, x4, x5, x6, x7, x8] t)).cell? ((⟨b, 0, none⟩ : Addr).add j) = some u := by
  subst hb
  intro j u hj
  rw [Go.WideShapes.add_plain]
  simp only [Nat.zero_add, World.cell?_alloc_new]
  simpa using hj
theorem cell_one (w : World) (b : Nat) (hb : b = w.heap.size) (x : Value) (t : TypeId) : ∀ j u, [x][j]? = some u → (w.alloc (.cells #[x] t)).cell? ((⟨b, 0, none⟩ : Addr).add j) = some u := by
  subst hb
  exact cell_one_new w x t
theorem KeptOff.alloc {w w1 : World} {v : Value} {n : Nat} {T : Nat → Br} (h : KeptOff w w1 v n T) (o : Obj) : KeptOff w (w1.alloc o) v n T :=
  ⟨h.os, h.tape, h.output, by rw [World.size_alloc]; have := h.size; omega, fun b hb ho => by
    rw [← h.block b hb ho]
    exact (World.grownBy_alloc w1 o none).block b (Nat.lt_of_lt_of_le hb h.size) (by simp)⟩
theorem KeptOff.grown {w w1 w2 : World} {v : Value} {n : Nat} {T : Nat → Br} {row : Option Nat} (h : KeptOff w w1 v n T) (hg : w1.grownBy w2 row) (hr : ∀ b, Off v n T b → row ≠ some b) : KeptOff w w2 v n T :=
  ⟨hg.os.trans h.os, hg.tape.trans h.tape, hg.output.trans h.output, Nat.le_trans h.size hg.size, fun b hb ho => by
    rw [← h.block b hb ho]
    exact hg.block b (Nat.lt_of_lt_of_le hb h.size) (fun e => hr b ho e.symm)⟩
theorem KeptOff.set {w w1 : World} {v : Value} {n : Nat} {T : Nat → Br} (h : KeptOff w w1 v n T) {g c : Nat} (hg : own v g) (u : Value) : KeptOff w (w1.setCell ⟨g, c, none⟩ u) v n T :=
  ⟨h.os, h.tape, h.output, by simp only [World.setCell, Array.size_modify]; exact h.size, fun b hb ho => by
    rw [← h.block b hb ho]
    exact Below.heap_setCell _ _ _ _ (fun e => ho.1 (by rw [e]; exact hg))⟩
theorem grown_cell {w w' : World} {row : Option Nat} {b o : Nat} {v : Value} (h : w.grownBy w' row) (hc : w.cell? ⟨b, o, none⟩ = some v) (hr : row ≠ some b) : w'.cell? ⟨b, o, none⟩ = some v := by
  have hb : b < w.heap.size := by
    rcases Nat.lt_or_ge b w.heap.size with h1 | h1
    · exact h1
    · simp [World.cell?, Array.getElem?_eq_none h1] at hc
  simp only [World.cell?] at hc ⊢
  rw [h.block b hb (fun e => hr e.symm)]
  exact hc
theorem grown_free {w w' : World} {row : Option Nat} {b o : Nat} (h : w.grownBy w' row) (hb : b < w.heap.size) (hc : w.frozen? ⟨b, o, none⟩ = false) (hr : row ≠ some b) : w'.frozen? ⟨b, o, none⟩ = false := by
  simp only [World.frozen?] at hc ⊢
  rw [h.block b hb (fun e => hr e.symm)]
  exact hc
theorem set_cell {w : World} {g c b o : Nat} {u v : Value} (hne : b ≠ g) (hc : w.cell? ⟨b, o, none⟩ = some v) : (w.setCell ⟨g, c, none⟩ u).cell? ⟨b, o, none⟩ = some v := by
  simp only [World.cell?] at hc ⊢
  rw [Below.heap_setCell _ _ _ _ hne]
  exact hc
def kidT (T : Nat → Br) (q n : Nat) (kv : Value) : Nat → Br := fun j => if j = q then { T q with kv := kv, kids := (T q).kids ++ [n] } else T j
/-- The kids of branch q have grown by one, and the branch holds them. -/
theorem kid_step {w w2 : World} {B g n cap q : Nat} {T : Nat → Br} {kv kvq x0 x1 x2 x3 x4 x5 : Value} {t1 : TypeId} {o2 : Obj} (ht : TreeAt w B (.slice (some ⟨g, 0, none⟩) n cap) n T) (hqn : q < n) (hl : (T q).kids.length + 1 ≤ n) (hkq : (T q).kv = kvq)
    (hown : w2.ownsRow B 2 1 kv ((T q).kids.length + 1) (kidVals (T q).kids ++ [.int .i64 (n : Int)])) (hg : ((w.alloc (.cells #[x0, x1, x2, x3, x4, x5] t1)).alloc o2).grownBy w2 kvq.ownBlock) (hat : kv.ownBlock = kvq.ownBlock ∨ kv.ownBlock = some ((w.alloc (.cells #[x0, x1, x2, x3, x4, x5] t1)).alloc o2).heap.size) :
    ∃ gk ck, kv = .slice (some ⟨gk, 0, none⟩) ((T q).kids.length + 1) ck ∧ w2.cell? ⟨g, q * 9 + 8, none⟩ = some kvq ∧ w2.frozen? ⟨g, q * 9 + 8, none⟩ = false ∧ w.heap.size + 2 ≤ w2.heap.size ∧
      (w2.setCell ⟨g, q * 9 + 8, none⟩ kv).cell? ⟨w.heap.size, 0, none⟩ = some x0 ∧ (w2.setCell ⟨g, q * 9 + 8, none⟩ kv).cell? ⟨w.heap.size, 1, none⟩ = some x1 ∧ (w2.setCell ⟨g, q * 9 + 8, none⟩ kv).cell? ⟨w.heap.size, 2, none⟩ = some x2 ∧ (w2.setCell ⟨g, q * 9 + 8, none⟩ kv).cell? ⟨w.heap.size, 3, none⟩ = some x3 ∧ (w2.setCell ⟨g, q * 9 + 8, none⟩ kv).cell? ⟨w.heap.size, 4, none⟩ = some x4 ∧ (w2.setCell ⟨g, q * 9 + 8, none⟩ kv).cell? ⟨w.heap.size, 5, none⟩ = some x5 ∧
      TreeAt (w2.setCell ⟨g, q * 9 + 8, none⟩ kv) B (.slice (some ⟨g, 0, none⟩) n cap) n (kidT T q n kv) ∧ KeptOff w (w2.setCell ⟨g, q * 9 + 8, none⟩ kv) (.slice (some ⟨g, 0, none⟩) n cap) n T := by
  subst hkq
  have hb0 : Below w.heap.size w ((w.alloc (.cells #[x0, x1, x2, x3, x4, x5] t1)).alloc o2) := ((Below.refl _ w).alloc (Nat.le_refl _) _).alloc (by simp) _
  have ht1 := ht.below hb0
  obtain ⟨gk, ck, hkv⟩ := ownsRow_succ hown
  obtain ⟨g', e1, _, hBg, hgl, _, _, _, _, _, _, _, _, c5, hfz⟩ := ht1.at hqn
  simp only [Option.some.injEq, Addr.mk.injEq, and_true] at e1
  subst e1
  obtain ⟨g2, e2, _, _, hgw, _⟩ := ht.at hqn
  simp only [Option.some.injEq, Addr.mk.injEq, and_true] at e2
  subst e2
  have hrq : (T q).kv.ownBlock ≠ some g := fun e => ht.sepv q hqn g e rfl
  have hrw : (T q).kv.ownBlock ≠ some w.heap.size := fun e => by have := (own_lt (ht.kids q hqn) e).2; omega
  have hcx : ∀ c x, #[x0, x1, x2, x3, x4, x5][c]? = some x → (w2.setCell ⟨g, q * 9 + 8, none⟩ kv).cell? ⟨w.heap.size, c, none⟩ = some x := fun c x hx => by
    refine set_cell (by omega) (grown_cell hg ?_ hrw)
    go_simp
  have hz := hg.size
  simp only [World.size_alloc] at hz
  refine ⟨gk, ck, hkv, grown_cell hg c5 hrq, grown_free hg hgl (hfz _) hrq, by omega, hcx 0 _ rfl, hcx 1 _ rfl, hcx 2 _ rfl, hcx 3 _ rfl, hcx 4 _ rfl, hcx 5 _ rfl, ht1.kid hqn hl hown hg hat, ?_⟩
  exact ((((KeptOff.of_below (Below.refl _ w)).alloc _).alloc _).grown hg (fun b ho e => ho.2 q hqn e)).set (show own (.slice (some ⟨g, 0, none⟩) n cap) g from rfl) _
theorem kidT_old {T : Nat → Br} {q n : Nat} {kv : Value} (j : Nat) (hj : j < n) : kidT T q n kv j = { T j with kv := (kidT T q n kv j).kv, kids := (T j).kids ++ (if (j : Int) = (q : Int) then [n] else []) } := by
  unfold kidT
  by_cases e : j = q
  · subst e; simp
  · have : ¬ ((j : Int) = (q : Int)) := by omega
    simp [e, this]
/-- A branch was put behind all others. -/
theorem push_done {w w1 w2 : World} {B n : Nat} {v v' : Value} {T T1 : Nat → Br} {b : Br} (h : TreeAt w1 B v n T1) (hk : KeptOff w w1 v n T) (hb : b.kv = .slice none 0 0) (hb2 : b.kids = [])
    (hold : ∀ j, j < n → T1 j = { T j with kv := (T1 j).kv, kids := (T j).kids ++ (if (j : Int) = b.par then [n] else []) })
    (hown : w2.ownsRow B 262 9 v' (n + 1) (flat (fun j => (T1 j).cells) n ++ b.cells)) (hg : w1.grownBy w2 v.ownBlock) (hat : v'.ownBlock = v.ownBlock ∨ v'.ownBlock = some w1.heap.size) :
    (∃ T', TreeAt w2 B v' (n + 1) T' ∧ Grew T T' n b) ∧ KeptOff w w2 v n T := by
  refine ⟨⟨fun j => if j = n then b else T1 j, h.push (b := b) hb hb2 hown hg hat, ?_, ?_⟩, hk.grown hg (fun b ho e => ho.1 e)⟩
  · intro j hj
    simp only [show ¬ j = n by omega, if_false]
    exact hold j hj
  · simp only [if_true]
set_option maxRecDepth 100000 in
set_option maxHeartbeats 4000000 in
theorem fillTree (es : List ElemD) (T : Nat → Br) (S : List Nat) (B : Nat) (v : Value) (n : Nat) (kd : Int) (nm : ByteArray) (ag : Int) (p : Int) (a3 : Option Addr) (n3 c3 : Nat) (a5 : Option Addr) (n5 c5' : Nat) (w : World) (hn : n ≤ 24) (hle : n ≤ es.length) (hB : B ≤ w.heap.size) (ht : TreeAt w B v n T)
    (hT : ∀ j (h : j < es.length), j < n → (T j).par = es[j].parent) (hc : Chain es S) (h1 : top S = (n : Int) - 1) (hd : DeepOn T S) (h8 : S.length ≤ 7) (hlt : ∀ j, j < n → (T j).kids.length < n) :
    Calls Tryz.prog 193 #[v, .agg #[.int .i64 kd, .int .i64 p, .string nm, .int .i64 ag, .slice a3 n3 c3, .slice a5 n5 c5'], .int .i64 p, .int .i64 7] w fun e w' =>
      (∃ v', e = .returned (.tuple #[v', .int .i64 (fcode n S p)]) ∧ (fcode n S p ≠ 0 → v' = .slice none 0 0) ∧
        (fcode n S p = 0 → ∃ T', TreeAt w' B v' (n + 1) T' ∧ Grew T T' n ⟨kd, p, nm, ag, .slice a3 n3 c3, .slice a5 n5 c5', (cutTo p S).length + 1, .slice none 0 0, []⟩)) ∧ KeptOff w w' v n T := by
  obtain ⟨a, cap, rfl⟩ := ht.slice
  have hb0 : Below w.heap.size w (w.alloc (.cells #[.int .i64 kd, .int .i64 p, .string nm, .int .i64 ag, .slice a3 n3 c3, .slice a5 n5 c5'] 164)) := (Below.refl _ w).alloc (Nat.le_refl _) _
  have HPF := hid (parentFault es T S B _ n p (w.alloc (.cells #[.int .i64 kd, .int .i64 p, .string nm, .int .i64 ag, .slice a3 n3 c3, .slice a5 n5 c5'] 164)) (by omega) hle (ht.below hb0) hT hc h1)
  have HT := hid ht
  have HD := hid hd
  have H1 := hid h1
  have HC := hid hc
  clear ht hT hd h1 hc
  by_cases hpf : pfault n S p = 0
  · have b1 : (pfault n S p != 0) = false := by simp [hpf]
    obtain ⟨i0, hi, hz0, hz1, hz2⟩ := info_parts infoBranch
    obtain ⟨j0, hj, hy0, hy1, hy2⟩ := info_parts infoI64
    have HPF' : Hid (Calls Tryz.prog 232 #[.slice a n cap, .int .i64 p] (w.alloc (.cells #[.int .i64 kd, .int .i64 p, .string nm, .int .i64 ag, .slice a3 n3 c3, .slice a5 n5 c5'] 164)) fun e w' => e = .returned (.int .i64 0) ∧ w' = (w.alloc (.cells #[.int .i64 kd, .int .i64 p, .string nm, .int .i64 ag, .slice a3 n3 c3, .slice a5 n5 c5'] 164))) := hid (by have h := HPF.out; rw [hpf] at h; exact h)
    clear HPF
    by_cases hp : p = -1
    · have h0 : n = 0 := by
        unfold pfault at hpf
        by_cases h0 : n = 0
        · exact h0
        · rw [if_neg h0, if_neg (by omega)] at hpf
          omega
      have hS : S = [] := by
        cases S with
        | nil => rfl
        | cons x r => have h := H1.out; exact absurd h (by show ¬ ((x : Int) = _); omega)
      have hcut : (cutTo p S).length = 0 := by rw [hS]; rfl
      have HV : Hid (fcode n S p = 0) := hid (by unfold fcode; rw [if_neg (by simp [hpf]), if_neg (by omega)])
      have b2 : (p != -1) = false := by simp [hp]
      have HCL := hid hcut
      have hrow := HT.out.row
      have HP := hid hp
      clear hpf hp hS hcut HC H1 HD
      have HN0 := hid h0
      clear h0
      go_enter Tryz.func193, Tryz.ntmps193
      go_wp2_with (first | (go_at_call 232; refine HPF'.out.mono ?_; rintro e w' ⟨rfl, rfl⟩) | (at_builtin; go_must (refine wpList_append_own_at _ rfl _ _ 224 rfl B 262 i0 (.agg #[.int .i64 0, .int .i64 0, .string { data := #[] }, .int .i64 0, .slice none 0 0, .slice none 0 0, .int .i64 0, .int .i64 0, .slice none 0 0]) 9 128 Tryz.underlying224 hi hz0 hz1 hz2 rfl (by decide) _ _ _ rfl ((hrow.alloc _).alloc _) ⟨w.heap.size + 1, 0, none⟩ 1 1 [.int .i64 kd, .int .i64 p, .string nm, .int .i64 ag, .slice a3 n3 c3, .slice a5 n5 c5', .int .i64 p, .int .i64 1, .slice none 0 0] rfl rfl (cell_nine _ _ (by simp) _ _ _ _ _ _ _ _ _ _) (by simp [Value.oneCell']) (by unfold maxLen; omega) (by omega) (by simp; omega) ?_); intro v' w2 hown' hgrow _ hat))
      go_ret2
      have hd := push_done (b := ⟨kd, p, nm, ag, .slice a3 n3 c3, .slice a5 n5 c5', 1, .slice none 0 0, []⟩) (T := T) (T1 := T) (w := w) ((HT.out.below hb0).below ((Below.refl _ _).alloc (Nat.le_refl _) _)) (((KeptOff.of_below (Below.refl _ w)).alloc _).alloc _) rfl rfl (fun j hj => by have := HN0.out; omega) hown' hgrow hat
      refine ⟨⟨_, by rw [HV.out]; rfl, fun e => absurd HV.out e, fun _ => ?_⟩, hd.2⟩
      rw [HCL.out]
      exact hd.1
    · have hpp : n ≠ 0 ∧ 0 ≤ p ∧ p < n ∧ onPath p S = true := by
        unfold pfault at hpf
        by_cases h0 : n = 0
        · rw [if_pos h0, if_neg hp] at hpf
          omega
        · rw [if_neg h0] at hpf
          by_cases h2 : 0 ≤ p ∧ p < (n : Int)
          · rw [if_pos h2] at hpf
            refine ⟨h0, h2.1, h2.2, ?_⟩
            cases hb : onPath p S
            · rw [hb] at hpf; simp at hpf
            · rfl
          · rw [if_neg h2] at hpf
            omega
      obtain ⟨hn0, hp0, hpn, hon⟩ := hpp
      have hda := deep_at HD.out hon
      have hcl : (cutTo p S).length ≤ 7 := Nat.le_trans cut_le h8
      obtain ⟨q, hq⟩ : ∃ q : Nat, p = (q : Int) := ⟨p.toNat, by omega⟩
      rw [hq, Int.toNat_natCast] at hda
      have hqn : q < n := by omega
      have b2 : ((q : Int) != -1) = true := bne_iff_ne.2 (by omega)
      have HF : Hid (fcode n S p = if 7 < (cutTo p S).length + 1 then 2 else 0) := hid (by unfold fcode; rw [if_neg (by simp [hpf])])
      subst hq
      obtain ⟨g, rfl, _, hBg, hg, c0, c1, c2, c3', c4', c4a, c4b, c4, c5, hfz⟩ := HT.out.at hqn
      rw [hda] at c4
      clear c0 c1 c2 c3' c4' c4a c4b hpf hp hon HC H1 HD hn0 hda
      generalize (cutTo (q : Int) S).length = dq at *
      by_cases h9 : 7 < dq + 1
      · have HV : Hid (fcode n S (q : Int) = 2) := hid (by rw [HF.out, if_pos h9])
        have b3 : (7 : Int) < 1 + (dq : Int) := by omega
        clear HF h9
        go_enter Tryz.func193, Tryz.ntmps193
        go_wp2_with (go_at_call 232; refine HPF'.out.mono ?_; rintro e w' ⟨rfl, rfl⟩)
        go_ret2
        exact ⟨⟨_, by rw [HV.out]; rfl, fun _ => rfl, fun e => by rw [HV.out] at e; omega⟩, KeptOff.of_below hb0⟩
      · have HV : Hid (fcode n S (q : Int) = 0) := hid (by rw [HF.out, if_neg h9])
        have b3 : ¬ (7 : Int) < 1 + (dq : Int) := by omega
        clear HF h9
        have hkq := HT.out.kids q hqn
        have hlk' : (T q).kids.length + 1 ≤ n := hlt q hqn
        have hlk : (T q).kids.length ≤ n := by omega
        have hrq : (T q).kv.ownBlock ≠ some g := fun e => HT.out.sepv q hqn g e rfl
        have hrw : (T q).kv.ownBlock ≠ some w.heap.size := fun e => by have := (own_lt hkq e).2; omega
        have hgw : g ≠ w.heap.size := by omega
        have hwg : w.heap.size ≠ g := by omega
        obtain ⟨kvq, hkvq⟩ : ∃ x, (T q).kv = x := ⟨_, rfl⟩
        have hsl : ∃ x y, kvq = .slice x (T q).kids.length y := by
          rw [← hkvq]
          rcases hkq.2 with ⟨e1, e2⟩ | ⟨x, y, _, e1, _⟩
          · exact ⟨none, 0, by rw [e1, e2]⟩
          · exact ⟨_, _, e1⟩
        rw [hkvq] at c5 hkq hrq hrw
        have HKQ := hid hkvq
        clear hkvq
        obtain ⟨xk, yk, rfl⟩ := hsl
        have hfz5 := hfz (q * 9 + 8)
        go_enter Tryz.func193, Tryz.ntmps193
        go_wp2_with (first
          | (go_at_call 232; refine HPF'.out.mono ?_; rintro e w' ⟨rfl, rfl⟩)
          | (at_builtin; (refine wpList_append_own_at _ rfl _ _ 110 rfl B 2 j0 (.int .i64 0) 1 8 Tryz.underlying110 hj hy0 hy1 hy2 rfl (by decide) _ _ _ rfl ((hkq.alloc _).alloc _) ⟨w.heap.size + 1, 0, none⟩ 1 1 [.int .i64 (n : Int)] rfl rfl (cell_one _ _ (by simp) _ _) (by simp [Value.oneCell']) (by unfold maxLen; omega) (by omega) (by simp; omega) ?_); intro kv w2 hown1 hg1 _ hat1; obtain ⟨gk, ck, rfl, s1, s2, s3, s4, s5, s6, s7, s8, s9, hT3, hK3⟩ := kid_step HT.out hqn hlk' HKQ.out hown1 hg1 hat1; have HT3 := hid hT3; have HK3 := hid hK3; have hrow3 := hT3.row; clear hT3 hK3 hown1 hg1 hat1)
          | (at_builtin; go_must (refine wpList_append_own_at _ rfl _ _ 224 rfl B 262 i0 (.agg #[.int .i64 0, .int .i64 0, .string { data := #[] }, .int .i64 0, .slice none 0 0, .slice none 0 0, .int .i64 0, .int .i64 0, .slice none 0 0]) 9 128 Tryz.underlying224 hi hz0 hz1 hz2 rfl (by decide) _ _ _ rfl (hrow3.alloc _) ⟨w2.heap.size, 0, none⟩ 1 1 [.int .i64 kd, .int .i64 (q : Int), .string nm, .int .i64 ag, .slice a3 n3 c3, .slice a5 n5 c5', .int .i64 (q : Int), .int .i64 (1 + (dq : Int)), .slice none 0 0] rfl rfl (cell_nine _ _ (by simp) _ _ _ _ _ _ _ _ _ _) (by simp [Value.oneCell']) (by unfold maxLen; omega) (by omega) (by simp; omega) ?_); intro v' w4 hown2 hg2 _ hat2))
        go_ret2
        have hB3 : Below (w2.setCell ⟨g, q * 9 + 8, none⟩ (.slice (some ⟨gk, 0, none⟩) ((T q).kids.length + 1) ck)).heap.size (w2.setCell ⟨g, q * 9 + 8, none⟩ (.slice (some ⟨gk, 0, none⟩) ((T q).kids.length + 1) ck)) ((w2.setCell ⟨g, q * 9 + 8, none⟩ (.slice (some ⟨gk, 0, none⟩) ((T q).kids.length + 1) ck)).alloc (.cells #[.int .i64 kd, .int .i64 (q : Int), .string nm, .int .i64 ag, .slice a3 n3 c3, .slice a5 n5 c5', .int .i64 (q : Int), .int .i64 (1 + (dq : Int)), .slice none 0 0] 262)) := (Below.refl _ _).alloc (Nat.le_refl _) _
        have hd := push_done (b := ⟨kd, q, nm, ag, .slice a3 n3 c3, .slice a5 n5 c5', dq + 1, .slice none 0 0, []⟩) (T := T) (T1 := kidT T q n (.slice (some ⟨gk, 0, none⟩) ((T q).kids.length + 1) ck)) (w := w) (v' := v') (w2 := w4) (HT3.out.below hB3) (HK3.out.alloc _) rfl rfl kidT_old (by
          have e1 : ((dq + 1 : Nat) : Int) = 1 + (dq : Int) := by omega
          unfold Br.cells
          rw [e1]
          exact hown2) hg2 hat2
        exact ⟨⟨_, by rw [HV.out]; rfl, fun e => absurd HV.out e, fun _ => hd.1⟩, hd.2⟩
  · have b1 : (pfault n S p != 0) = true := by simpa using hpf
    have HV : Hid (fcode n S p = pfault n S p) := hid (by unfold fcode; rw [if_pos hpf])
    have HN := hid hpf
    clear hpf
    go_enter Tryz.func193, Tryz.ntmps193
    go_wp2_with (go_at_call 232; refine HPF.out.mono ?_; rintro e w' ⟨rfl, rfl⟩)
    go_ret2
    exact ⟨⟨_, by rw [HV.out]; rfl, fun _ => rfl, fun e => absurd (by rw [← HV.out]; exact e) HN.out⟩, KeptOff.of_below hb0⟩
end Pt
end Go.Proofs.YtccklgopcjilcaaGreatDoor
