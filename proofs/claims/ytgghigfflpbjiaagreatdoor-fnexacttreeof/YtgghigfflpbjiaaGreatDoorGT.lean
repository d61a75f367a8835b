/- Laid together: TrU, TrV, TrW, TrX, TrY, TrD. -/
import Derived.Test.YtgghigfflpbjiaaGreatDoorGS
import Derived.Maps.AppendAt
import Derived.Laws.OwnMore
import Derived.RangeFuncBox
import Derived.Below
import Derived.Test.YtgghigfflpbjiaaGreatDoorGC
import Derived.Deep.QuietTactic
import Derived.BigQuiet
import Derived.Deep.RegionWith
/- The program's tree in memory: a row of branches, each with a row of its kids; what a store, a new kid and a new branch leave of it. -/
namespace Go.Proofs.YtgghigfflpbjiaaGreatDoor
open Go.RowKit
set_option linter.unusedVariables false
namespace Tr
structure Br where
  tag : ByteArray
  par : Int
  va : Value
  deep : Nat
  kv : Value
  kids : List Nat
def Br.cells (b : Br) : List Value := [.string b.tag, .int .i64 b.par, b.va, .int .i64 b.par, .int .i64 b.deep, b.kv]
def kidVals (l : List Nat) : List Value := l.map fun (i : Nat) => .int .i64 (i : Int)
def flat (f : Nat → List Value) (n : Nat) : List Value := (List.range n).flatMap f
theorem flat_succ (f : Nat → List Value) (n : Nat) : flat f (n + 1) = flat f n ++ f n := by simp [flat, List.range_succ]
theorem flat_len {f : Nat → List Value} (h : ∀ j, (f j).length = 6) : ∀ n, (flat f n).length = n * 6
  | 0 => rfl
  | n + 1 => by rw [flat_succ, List.length_append, flat_len h n, h n]; omega
theorem flat_get {f : Nat → List Value} (h : ∀ j, (f j).length = 6) : ∀ {n j c : Nat}, j < n → c < 6 → (flat f n)[j * 6 + c]? = (f j)[c]?
  | 0, j, c, hj, _ => by omega
  | n + 1, j, c, hj, hc => by
    rw [flat_succ]
    by_cases e : j = n
    · subst e
      rw [List.getElem?_append_right (by rw [flat_len h]; omega), flat_len h, Nat.add_sub_cancel_left]
    · rw [List.getElem?_append_left (by rw [flat_len h]; omega)]
      exact flat_get h (by omega) hc
theorem flat_congr {f g : Nat → List Value} : ∀ {n : Nat}, (∀ j, j < n → f j = g j) → flat f n = flat g n
  | 0, _ => rfl
  | n + 1, h => by rw [flat_succ, flat_succ, h n (by omega), flat_congr (fun j hj => h j (by omega))]
theorem flat_set {f : Nat → List Value} (h : ∀ j, (f j).length = 6) {n j c : Nat} (hj : j < n) (hc : c < 6) (u : Value) :
    (flat f n).set (j * 6 + c) u = flat (fun i => if i = j then (f j).set c u else f i) n := by
  induction n with
  | zero => omega
  | succ n ih =>
    rw [flat_succ, flat_succ]
    by_cases e : j = n
    · subst e
      rw [List.set_append_right _ _ (by rw [flat_len h]; omega), flat_len h, Nat.add_sub_cancel_left, if_pos rfl]
      congr 1
      exact flat_congr (fun i hi => by rw [if_neg (by omega)])
    · rw [List.set_append_left _ _ (by rw [flat_len h]; omega), ih (by omega), if_neg (by omega)]
theorem cells_len (b : Br) : b.cells.length = 6 := rfl
def own (v : Value) (b : Nat) : Prop := v.ownBlock = some b
structure TreeAt (w : World) (B : Nat) (v : Value) (n : Nat) (T : Nat → Br) : Prop where
  row : w.ownsRow B 138 6 v n (flat (fun j => (T j).cells) n)
  kids : ∀ j, j < n → w.ownsRow B 2 1 (T j).kv (T j).kids.length (kidVals (T j).kids)
  sep : ∀ i j, i < n → j < n → i ≠ j → ∀ b, own (T i).kv b → ¬ own (T j).kv b
  sepv : ∀ j, j < n → ∀ b, own (T j).kv b → ¬ own v b
  lens : ∀ j, j < n → (T j).kids.length ≤ n
/-- A block that the tree has no hand in. -/
def Off (v : Value) (n : Nat) (T : Nat → Br) (b : Nat) : Prop := ¬ own v b ∧ ∀ j, j < n → ¬ own (T j).kv b
theorem own_lt {w : World} {B : Nat} {e : TypeId} {size n b : Nat} {v : Value} {xs : List Value} (h : w.ownsRow B e size v n xs) (hb : own v b) : B ≤ b ∧ b < w.heap.size := by
  rcases h.2 with ⟨rfl, _⟩ | ⟨g, cap, cur, rfl, hbg, hg, _⟩
  · simp [own, Value.ownBlock] at hb
  · obtain rfl : g = b := by simpa [own, Value.ownBlock] using hb
    exact ⟨hbg, (Array.getElem?_eq_some_iff.1 hg).1⟩
theorem TreeAt.kept {w w' : World} {B : Nat} {v : Value} {n : Nat} {T : Nat → Br} (h : TreeAt w B v n T) (hos : w'.os = w.os) (htape : w'.tape = w.tape) (hout : w'.output = w.output) (hsz : w.heap.size ≤ w'.heap.size) (hb : ∀ g, g < w.heap.size → B ≤ g → w'.heap[g]? = w.heap[g]?) : TreeAt w' B v n T := by
  have keep : ∀ {e : TypeId} {size m : Nat} {u : Value} {xs : List Value}, w.ownsRow B e size u m xs → w'.ownsRow B e size u m xs := fun {e size m u xs} h => by
    refine ⟨h.1, ?_⟩
    rcases h.2 with hn | ⟨g, cap, cur, rfl, hbg, hg, rest⟩
    · exact .inl hn
    · exact .inr ⟨g, cap, cur, rfl, hbg, by rw [hb g (Array.getElem?_eq_some_iff.1 hg).1 hbg]; exact hg, rest⟩
  exact ⟨keep h.row, fun j hj => keep (h.kids j hj), h.sep, h.sepv, h.lens⟩
theorem TreeAt.below {w w' : World} {B : Nat} {v : Value} {n : Nat} {T : Nat → Br} (h : TreeAt w B v n T) (hb : Below w.heap.size w w') : TreeAt w' B v n T :=
  h.kept hb.os hb.tape hb.output hb.size (fun g hg _ => hb.block g hg)
theorem TreeAt.nil (w : World) (B : Nat) (T : Nat → Br) : TreeAt w B (.slice none 0 0) 0 T :=
  ⟨World.ownsRow_nil w B _ 6, fun j h => by omega, fun i j h => by omega, fun j h => by omega, fun j h => by omega⟩
theorem TreeAt.slice {w : World} {B : Nat} {v : Value} {n : Nat} {T : Nat → Br} (h : TreeAt w B v n T) : ∃ a cap, v = .slice a n cap := by
  rcases h.row.2 with ⟨rfl, rfl⟩ | ⟨g, cap, cur, rfl, _⟩
  · exact ⟨_, _, rfl⟩
  · exact ⟨_, _, rfl⟩
theorem TreeAt.at {w : World} {B : Nat} {a : Option Addr} {m cap n : Nat} {T : Nat → Br} (h : TreeAt w B (.slice a m cap) n T) {j : Nat} (hj : j < n) :
    ∃ g, a = some ⟨g, 0, none⟩ ∧ m = n ∧ B ≤ g ∧ g < w.heap.size ∧ w.cell? ⟨g, j * 6, none⟩ = some (.string (T j).tag) ∧ w.cell? ⟨g, j * 6 + 1, none⟩ = some (.int .i64 (T j).par) ∧ w.cell? ⟨g, j * 6 + 2, none⟩ = some (T j).va ∧
      w.cell? ⟨g, j * 6 + 3, none⟩ = some (.int .i64 (T j).par) ∧ w.cell? ⟨g, j * 6 + 4, none⟩ = some (.int .i64 (T j).deep) ∧ w.cell? ⟨g, j * 6 + 5, none⟩ = some (T j).kv ∧ ∀ c, w.frozen? ⟨g, c, none⟩ = false := by
  rcases h.row.2 with ⟨_, h0⟩ | ⟨g, cap', cur, hv, hbg, hg, hle, hm, hs, ht⟩
  · omega
  · simp only [Value.slice.injEq] at hv
    obtain ⟨rfl, rfl, rfl⟩ := hv
    have hget : ∀ c, c < 6 → w.cell? ⟨g, j * 6 + c, none⟩ = (T j).cells[c]? := fun c hc => by
      have h2 := flat_get (f := fun j => (T j).cells) (fun j => cells_len _) hj hc
      rw [← ht, List.getElem?_take, if_pos (by omega)] at h2
      simp only [World.cell?, hg, Option.isSome_none, Bool.false_eq_true, if_false]
      simpa using h2
    refine ⟨g, rfl, rfl, hbg, (Array.getElem?_eq_some_iff.1 hg).1, hget 0 (by omega), hget 1 (by omega), hget 2 (by omega), hget 3 (by omega), hget 4 (by omega), hget 5 (by omega), fun c => ?_⟩
    simp [World.frozen?, hg]
/-- A new kid of branch p: the row of its kids has grown, and the branch holds the new one. -/
theorem TreeAt.kid {w1 w2 : World} {B g m cap n p q : Nat} {T : Nat → Br} {kv : Value} (h : TreeAt w1 B (.slice (some ⟨g, 0, none⟩) m cap) n T) (hp : p < n) (hq : (T p).kids.length + 1 ≤ n)
    (hown : w2.ownsRow B 2 1 kv ((T p).kids.length + 1) (kidVals (T p).kids ++ [.int .i64 (q : Int)])) (hg : w1.grownBy w2 (T p).kv.ownBlock) (hat : kv.ownBlock = (T p).kv.ownBlock ∨ kv.ownBlock = some w1.heap.size) :
    TreeAt (w2.setCell ⟨g, p * 6 + 5, none⟩ kv) B (.slice (some ⟨g, 0, none⟩) m cap) n (fun j => if j = p then { T p with kv := kv, kids := (T p).kids ++ [q] } else T j) := by
  have hgb : own (.slice (some ⟨g, 0, none⟩) m cap) g := rfl
  have hgl := own_lt h.row hgb
  have hvp : ∀ b, own (T p).kv b → b ≠ g := fun b hb e => h.sepv p hp b hb (by rw [e]; exact hgb)
  have hkv : ∀ b, own kv b → own (T p).kv b ∨ b = w1.heap.size := fun b hb => by
    rcases hat with e | e
    · exact .inl (by unfold own; rw [← e]; exact hb)
    · right; unfold own at hb; rw [e] at hb; exact (Option.some.inj hb).symm
  have hrow2 : w2.ownsRow B 138 6 (.slice (some ⟨g, 0, none⟩) m cap) n (flat (fun j => (T j).cells) n) := h.row.kept hg (.inr (fun e => by
    have : own (T p).kv g := e.symm
    exact hvp g this rfl))
  have hmn : m = n := by
    rcases h.row.2 with ⟨e, _⟩ | ⟨_, _, _, e, _⟩
    · cases e
    · cases e; rfl
  subst hmn
  have hst := (hrow2.stored (p * 6 + 5) kv).1
  rw [flat_set (fun j => cells_len _) hp (by omega)] at hst
  have heq : flat (fun i => if i = p then (T p).cells.set 5 kv else (T i).cells) m = flat (fun j => (if j = p then { T p with kv := kv, kids := (T p).kids ++ [q] } else T j).cells) m := by
    refine flat_congr (fun j hj => ?_)
    by_cases e : j = p
    · simp only [e, if_true]; rfl
    · simp only [e, if_false]
  rw [heq] at hst
  refine ⟨hst, fun j hj => ?_, fun i j hi hj hij b => ?_, fun j hj b => ?_, fun j hj => ?_⟩
  · by_cases e : j = p
    · subst e
      simp only [if_true]
      have h2 : w2.ownsRow B 2 1 kv ((T j).kids ++ [q]).length (kidVals ((T j).kids ++ [q])) := by simpa [kidVals] using hown
      refine h2.kept (hrow2.stored (j * 6 + 5) kv).2 (.inr (fun e => ?_))
      rcases hkv g e with h3 | h3
      · exact hvp g h3 rfl
      · omega
    · simp only [e, if_false]
      have h2 : w2.ownsRow B 2 1 (T j).kv (T j).kids.length (kidVals (T j).kids) := (h.kids j hj).kept hg (by
        cases hb : (T j).kv.ownBlock with
        | none => exact .inl rfl
        | some b => exact .inr (fun e2 => h.sep j p hj hp e b hb e2.symm))
      refine h2.kept (hrow2.stored (p * 6 + 5) kv).2 (.inr (fun e2 => h.sepv j hj g e2 hgb))
  · by_cases e1 : i = p
    · subst e1
      have e2 : j ≠ i := fun e => hij e.symm
      simp only [if_true, e2, if_false]
      intro hb hj2
      rcases hkv b hb with h3 | h3
      · exact h.sep i j hi hj hij b h3 hj2
      · have := (own_lt (h.kids j hj) hj2).2
        omega
    · by_cases e2 : j = p
      · subst e2
        simp only [e1, if_false, if_true]
        intro hb hj2
        rcases hkv b hj2 with h3 | h3
        · exact h.sep i j hi hj hij b hb h3
        · have := (own_lt (h.kids i hi) hb).2
          omega
      · simp only [e1, e2, if_false]
        exact h.sep i j hi hj hij b
  · by_cases e : j = p
    · subst e
      simp only [if_true]
      intro hb hv
      obtain rfl : g = b := by simpa [own, Value.ownBlock] using hv
      rcases hkv g hb with h3 | h3
      · exact hvp g h3 rfl
      · omega
    · simp only [e, if_false]
      exact h.sepv j hj b
  · by_cases e : j = p
    · subst e
      simp only [if_true, List.length_append, List.length_cons, List.length_nil]
      omega
    · simp only [e, if_false]
      exact h.lens j hj
/-- A new branch behind all others. -/
theorem TreeAt.push {w1 w2 : World} {B n : Nat} {v v' : Value} {T : Nat → Br} {b : Br} (h : TreeAt w1 B v n T) (hk : b.kv = .slice none 0 0) (hk2 : b.kids = [])
    (hown : w2.ownsRow B 138 6 v' (n + 1) (flat (fun j => (T j).cells) n ++ b.cells)) (hg : w1.grownBy w2 v.ownBlock) (hat : v'.ownBlock = v.ownBlock ∨ v'.ownBlock = some w1.heap.size) :
    TreeAt w2 B v' (n + 1) (fun j => if j = n then b else T j) := by
  have hv' : ∀ c, own v' c → own v c ∨ c = w1.heap.size := fun c hc => by
    rcases hat with e | e
    · exact .inl (by unfold own; rw [← e]; exact hc)
    · right; unfold own at hc; rw [e] at hc; exact (Option.some.inj hc).symm
  have hb0 : ∀ c, ¬ own b.kv c := fun c e => by rw [hk] at e; simp [own, Value.ownBlock] at e
  refine ⟨?_, fun j hj => ?_, fun i j hi hj hij c => ?_, fun j hj c => ?_, fun j hj => ?_⟩
  · rw [flat_succ, if_pos rfl, flat_congr (g := fun j => (T j).cells) (fun j hj => by rw [if_neg (by omega)])]
    exact hown
  · by_cases e : j = n
    · simp only [e, if_true, hk, hk2]
      exact World.ownsRow_nil _ _ _ _
    · simp only [e, if_false]
      refine (h.kids j (by omega)).kept hg ?_
      cases hb : (T j).kv.ownBlock with
      | none => exact .inl rfl
      | some c => exact .inr (fun e2 => h.sepv j (by omega) c hb e2.symm)
  · by_cases e1 : i = n
    · simp only [e1, if_true]
      exact fun hc => absurd hc (hb0 c)
    · by_cases e2 : j = n
      · simp only [e1, e2, if_false, if_true]
        exact fun _ hc => hb0 c hc
      · simp only [e1, e2, if_false]
        exact h.sep i j (by omega) (by omega) hij c
  · by_cases e : j = n
    · simp only [e, if_true]
      exact fun hc => absurd hc (hb0 c)
    · simp only [e, if_false]
      intro hc hv
      rcases hv' c hv with h3 | h3
      · exact h.sepv j (by omega) c hc h3
      · have := (own_lt (h.kids j (by omega)) hc).2
        omega
  · by_cases e : j = n
    · simp only [e, if_true, hk2]; exact Nat.zero_le _
    · simp only [e, if_false]
      have := h.lens j (by omega)
      omega
end Tr
end Go.Proofs.YtgghigfflpbjiaaGreatDoor
/- A branch put behind all others, as the program does it. -/
namespace Go.Proofs.YtgghigfflpbjiaaGreatDoor
open Go.RowKit
set_option linter.unusedVariables false
namespace Tr
def DeepOn (T : Nat → Br) : List Nat → Prop
  | [] => True
  | a :: r => (T a).deep = r.length + 1 ∧ DeepOn T r
theorem deep_cut {T : Nat → Br} {p : Int} : ∀ {S : List Nat}, DeepOn T S → DeepOn T (cutTo p S)
  | [], _ => trivial
  | a :: r, h => by
    unfold cutTo
    split
    · exact h
    · exact deep_cut h.2
theorem cut_cons {p : Int} : ∀ {S : List Nat}, onPath p S = true → ∃ a r, cutTo p S = a :: r ∧ (a : Int) = p
  | [], h => by simp [onPath] at h
  | a :: r, h => by
    by_cases e : (a : Int) = p
    · exact ⟨a, r, cut_yes e, e⟩
    · rw [cut_no e]
      exact cut_cons (by rw [onPath_cons] at h; simpa [e] using h)
theorem deep_at {T : Nat → Br} {p : Int} {S : List Nat} (h : DeepOn T S) (hp : onPath p S = true) : (T p.toNat).deep = (cutTo p S).length := by
  obtain ⟨a, r, e, ea⟩ := cut_cons hp
  have h2 := deep_cut (p := p) h
  rw [e] at h2 ⊢
  have : p.toNat = a := by omega
  rw [this]
  exact h2.1
theorem deep_congr {T T' : Nat → Br} {n : Nat} {es : List ElemD} (hT : ∀ j, j < n → (T' j).deep = (T j).deep) : ∀ {S : List Nat}, Chain es S → top S < n → DeepOn T S → DeepOn T' S
  | [], _, _, _ => trivial
  | a :: r, hc, hn, h => by
    have ha : (a : Int) < n := hn
    have := top_lt hc
    exact ⟨by rw [hT a (by omega)]; exact h.1, deep_congr hT hc.2.2 (by omega) h.2⟩
def pfault (n : Nat) (S : List Nat) (p : Int) : Int := if n = 0 then (if p = -1 then 0 else 3) else if 0 ≤ p ∧ p < n then (if onPath p S then 0 else 1) else 3
set_option maxRecDepth 100000 in
set_option maxHeartbeats 400000 in
theorem hasPlace (a : Option Addr) (n cap : Nat) (p : Int) (w : World) (hn : n ≤ 1048576) :
    Calls Tryz.prog 123 #[.slice a n cap, .int .i64 p] w fun e w' => e = .returned (.bool (decide (0 ≤ p) && decide (p < n))) ∧ w' = w := by
  by_cases h1 : 0 ≤ p
  · by_cases h2 : p < (n : Int)
    · have HV : Hid ((decide (0 ≤ p) && decide (p < n)) = true) := hid (by simp [h1, h2])
      go_enter Tryz.func123, Tryz.ntmps123
      go_wp2
      go_ret
      exact ⟨by simp [h1, h2], rfl⟩
    · go_enter Tryz.func123, Tryz.ntmps123
      go_wp2
      go_ret
      exact ⟨by simp; omega, rfl⟩
  · go_enter Tryz.func123, Tryz.ntmps123
    go_wp2
    go_ret
    exact ⟨by simp; omega, rfl⟩
set_option maxRecDepth 100000 in
set_option maxHeartbeats 2000000 in
theorem parentFault (es : List ElemD) (T : Nat → Br) (S : List Nat) (B : Nat) (v : Value) (n : Nat) (p : Int) (w : World) (hn : n ≤ 1048576) (hle : n ≤ es.length) (ht : TreeAt w B v n T)
    (hT : ∀ j (h : j < es.length), j < n → (T j).par = es[j].parent) (hc : Chain es S) (h1 : top S = (n : Int) - 1) :
    Calls Tryz.prog 106 #[v, .int .i64 p] w fun e w' => e = .returned (.int .i64 (pfault n S p)) ∧ w' = w := by
  obtain ⟨a, cap, rfl⟩ := ht.slice
  have HT := hid ht
  have HP := hid hT
  have HC := hid hc
  have H1 := hid h1
  have HH := hid (hasPlace a n cap p w hn)
  clear ht hT hc h1
  by_cases h0 : n = 0
  · by_cases hp : p = -1
    · have HV : Hid (pfault n S p = 0) := hid (by unfold pfault; rw [if_pos h0, if_pos hp])
      have b0 : ((n : Int) == 0) = true := beq_iff_eq.2 (by omega)
      have b1 : (p != -1) = false := by simp [hp]
      clear h0 hp
      go_enter Tryz.func106, Tryz.ntmps106
      go_wp2
      go_ret
      exact ⟨by rw [HV.out]; rfl, rfl⟩
    · have HV : Hid (pfault n S p = 3) := hid (by unfold pfault; rw [if_pos h0, if_neg hp])
      have b0 : ((n : Int) == 0) = true := beq_iff_eq.2 (by omega)
      have b1 : (p != -1) = true := bne_iff_ne.2 hp
      clear h0 hp
      go_enter Tryz.func106, Tryz.ntmps106
      go_wp2
      go_ret
      exact ⟨by rw [HV.out]; rfl, rfl⟩
  have b0 : ((n : Int) == 0) = false := beq_eq_false_iff_ne.2 (by omega)
  by_cases hp : 0 ≤ p ∧ p < (n : Int)
  · have HV : Hid (pfault n S p = if onPath p S then 0 else 1) := hid (by unfold pfault; rw [if_neg h0, if_pos hp])
    have e1 : (decide (0 ≤ p) && decide (p < n)) = true := by simp [hp.1, hp.2]
    rw [e1] at HH
    have hp1 := hp.1
    have hp2 := hp.2
    clear hp e1 h0
    go_enter Tryz.func106, Tryz.ntmps106
    go_wp2_with (go_at_call 123; refine HH.out.mono ?_; rintro e w' ⟨rfl, rfl⟩)
    go_loop [5] (fun x => ∃ S' : List Nat, x = .int .i64 (top S') ∧ top S' < n ∧ Hid (Chain es S' ∧ onPath p S = onPath p S')) (fun x => (intOf x + 1).toNat)
    case atStart => exact ⟨S, by rw [H1.out], by rw [H1.out]; omega, HC.out, rfl⟩
    case round =>
      obtain ⟨S', rfl, htn, HS⟩ := hrel
      have htg0 := top_ge S'
      cases S' with
      | nil =>
        have HX : Hid (onPath p S = false) := hid (by rw [HS.out.2]; rfl)
        have q2 : ¬ p < top [] := by show ¬ p < -1; omega
        have q3 : (top [] != p) = true := bne_iff_ne.2 (by show ((-1 : Int)) ≠ p; omega)
        go_wp2
        go_ret
        exact ⟨by rw [HV.out, HX.out]; rfl, rfl⟩
      | cons x r =>
        obtain ⟨hx, hpx⟩ := chain_get HS.out.1
        have htl := top_lt HS.out.1
        have htg := top_ge r
        have ht : top (x :: r) = (x : Int) := rfl
        rw [ht] at htn ⊢
        have hxn : x < n := by omega
        by_cases hgt : p < (x : Int)
        · have HX : Hid (Chain es r ∧ onPath p S = onPath p r) := hid ⟨chain_tail HS.out.1, by
            rw [HS.out.2, onPath_cons]
            have : ¬ ((x : Int) = p) := by omega
            simp [this]⟩
          obtain ⟨g, rfl, _, hB, hg, c0, c1, c2, c3, c4, c5, _⟩ := HT.out.at hxn
          rw [HP.out x hx hxn, hpx] at c3
          clear c0 c1 c2 c4 c5
          have q3 : (x : Int) < (n : Int) := by omega
          go_wp2
          exact ⟨⟨r, rfl, by omega, HX⟩, by simp [intOf]; omega⟩
        · by_cases he : (x : Int) = p
          · have HX : Hid (onPath p S = true) := hid (by rw [HS.out.2, onPath_cons]; simp [he])
            have q3 : ((x : Int) != p) = false := by simp [he]
            clear he
            go_wp2
            go_ret
            exact ⟨by rw [HV.out, HX.out]; rfl, rfl⟩
          · have HX : Hid (onPath p S = false) := hid (by
              rw [HS.out.2]
              cases hb : onPath p (x :: r)
              · rfl
              · have h3 := on_lt HS.out.1 hb
                have h4 : top (x :: r) = (x : Int) := rfl
                omega)
            have q3 : ((x : Int) != p) = true := bne_iff_ne.2 he
            clear he
            go_wp2
            go_ret
            exact ⟨by rw [HV.out, HX.out]; rfl, rfl⟩
  · have HV : Hid (pfault n S p = 3) := hid (by unfold pfault; rw [if_neg h0, if_neg hp])
    have e1 : (decide (0 ≤ p) && decide (p < n)) = false := by
      rw [← Bool.not_eq_true]; intro e; apply hp; simpa using e
    rw [e1] at HH
    clear hp e1 h0
    go_enter Tryz.func106, Tryz.ntmps106
    go_wp2_with (go_at_call 123; refine HH.out.mono ?_; rintro e w' ⟨rfl, rfl⟩)
    go_ret
    exact ⟨by rw [HV.out]; rfl, rfl⟩
end Tr
end Go.Proofs.YtgghigfflpbjiaaGreatDoor
/- fillTree of the program. -/
namespace Go.Proofs.YtgghigfflpbjiaaGreatDoor
open Go.RowKit
set_option linter.unusedVariables false
namespace Tr
def fcode (n : Nat) (S : List Nat) (p : Int) : Int := if pfault n S p ≠ 0 then pfault n S p else if 8 < (cutTo p S).length + 1 then 2 else 0
/-- Nothing has turned but what the tree owns. -/
structure KeptOff (w w' : World) (v : Value) (n : Nat) (T : Nat → Br) : Prop where
  os : w'.os = w.os
  tape : w'.tape = w.tape
  output : w'.output = w.output
  size : w.heap.size ≤ w'.heap.size
  block : ∀ b, b < w.heap.size → Off v n T b → w'.heap[b]? = w.heap[b]?
theorem off_low {w : World} {B : Nat} {v : Value} {n : Nat} {T : Nat → Br} (h : TreeAt w B v n T) {b : Nat} (hb : b < B) : Off v n T b :=
  ⟨fun e => by have := (own_lt h.row e).1; omega, fun j hj e => by have := (own_lt (h.kids j hj) e).1; omega⟩
theorem off_new {w : World} {B : Nat} {v : Value} {n : Nat} {T : Nat → Br} (h : TreeAt w B v n T) {b : Nat} (hb : w.heap.size ≤ b) : Off v n T b :=
  ⟨fun e => by have := (own_lt h.row e).2; omega, fun j hj e => by have := (own_lt (h.kids j hj) e).2; omega⟩
theorem KeptOff.below {w w' : World} {B : Nat} {v : Value} {n : Nat} {T : Nat → Br} (h : KeptOff w w' v n T) (ht : TreeAt w B v n T) (hB : B ≤ w.heap.size) : Below B w w' :=
  ⟨h.os, h.tape, h.output, h.size, fun b hb => h.block b (by omega) (off_low ht hb)⟩
theorem KeptOff.of_below {w w' : World} {v : Value} {n : Nat} {T : Nat → Br} (h : Below w.heap.size w w') : KeptOff w w' v n T := ⟨h.os, h.tape, h.output, h.size, fun b hb _ => h.block b hb⟩
/-- How the tree has grown. -/
structure Grew (T T' : Nat → Br) (n : Nat) (p : Int) (tag : ByteArray) (va : Value) (d : Nat) : Prop where
  old : ∀ j, j < n → (T' j).tag = (T j).tag ∧ (T' j).par = (T j).par ∧ (T' j).va = (T j).va ∧ (T' j).deep = (T j).deep ∧ (T' j).kids = (T j).kids ++ (if (j : Int) = p then [n] else [])
  tag : (T' n).tag = tag
  par : (T' n).par = p
  va : (T' n).va = va
  deep : (T' n).deep = d
  kids : (T' n).kids = []
theorem infoBranch : (Tryz.prog.info? 138).map (fun i => (i.zero, i.size, i.bytes)) = some (some (.agg #[.string { data := #[] }, .int .i64 0, .slice none 0 0, .int .i64 0, .int .i64 0, .slice none 0 0]), 6, 88) := by kernel_rfl
theorem infoI64 : (Tryz.prog.info? 2).map (fun i => (i.zero, i.size, i.bytes)) = some (some (.int .i64 0), 1, 8) := by kernel_rfl
theorem info_parts {P : Program} {e : TypeId} {z : Value} {sz bytes : Nat} (h : (P.info? e).map (fun i => (i.zero, i.size, i.bytes)) = some (some z, sz, bytes)) : ∃ i, P.info? e = some i ∧ i.zero = some z ∧ i.size = sz ∧ i.bytes = bytes := by
  cases hi : P.info? e with
  | none => rw [hi] at h; cases h
  | some i =>
    rw [hi] at h
    simp only [Option.map_some, Option.some.injEq, Prod.mk.injEq] at h
    exact ⟨i, rfl, h.1, h.2.1, h.2.2⟩
theorem cell_six (w : World) (b : Nat) (hb : b = w.heap.size) (x0 x1 x2 x3 x4 x5 : Value) (t : TypeId) : ∀ j u, [x0, x1, x2, x3, x4, x5][j]? = some u → (w.alloc (.cells #[x0, x1, x2, x3, x4, x5] t)).cell? ((⟨b, 0, none⟩ : Addr).add j) = some u := by
  subst hb
  intro j u hj
  rw [Go.WideShapes.add_plain]
  simp only [Nat.zero_add, World.cell?_alloc_new]
  simpa using hj
theorem cell_one (w : World) (b : Nat) (hb : b = w.heap.size) (x : Value) (t : TypeId) : ∀ j u, [x][j]? = some u → (w.alloc (.cells #[x] t)).cell? ((⟨b, 0, none⟩ : Addr).add j) = some u := by
  subst hb
  exact cell_one_new w x t
theorem KeptOff.alloc {w w1 : World} {v : Value} {n : Nat} {T : Nat → Br} (h : KeptOff w w1 v n T) (o : Obj) : KeptOff w (w1.alloc o) v n T :=
  ⟨h.os, h.tape, h.output, by rw [World.size_alloc]; have := h.size; omega, fun b hb ho => by
    rw [← h.block b hb ho]
    exact (World.grownBy_alloc w1 o none).block b (Nat.lt_of_lt_of_le hb h.size) (by simp)⟩
theorem KeptOff.grown {w w1 w2 : World} {v : Value} {n : Nat} {T : Nat → Br} {row : Option Nat} (h : KeptOff w w1 v n T) (hg : w1.grownBy w2 row) (hr : ∀ b, Off v n T b → row ≠ some b) : KeptOff w w2 v n T :=
  ⟨hg.os.trans h.os, hg.tape.trans h.tape, hg.output.trans h.output, Nat.le_trans h.size hg.size, fun b hb ho => by
    rw [← h.block b hb ho]
    exact hg.block b (Nat.lt_of_lt_of_le hb h.size) (fun e => hr b ho e.symm)⟩
theorem KeptOff.set {w w1 : World} {v : Value} {n : Nat} {T : Nat → Br} (h : KeptOff w w1 v n T) {g c : Nat} (hg : own v g) (u : Value) : KeptOff w (w1.setCell ⟨g, c, none⟩ u) v n T :=
  ⟨h.os, h.tape, h.output, by simp only [World.setCell, Array.size_modify]; exact h.size, fun b hb ho => by
    rw [← h.block b hb ho]
    exact Below.heap_setCell _ _ _ _ (fun e => ho.1 (by rw [e]; exact hg))⟩
theorem grown_cell {w w' : World} {row : Option Nat} {b o : Nat} {v : Value} (h : w.grownBy w' row) (hc : w.cell? ⟨b, o, none⟩ = some v) (hr : row ≠ some b) : w'.cell? ⟨b, o, none⟩ = some v := by
  have hb : b < w.heap.size := by
    rcases Nat.lt_or_ge b w.heap.size with h1 | h1
    · exact h1
    · simp [World.cell?, Array.getElem?_eq_none h1] at hc
  simp only [World.cell?] at hc ⊢
  rw [h.block b hb (fun e => hr e.symm)]
  exact hc
theorem grown_free {w w' : World} {row : Option Nat} {b o : Nat} (h : w.grownBy w' row) (hb : b < w.heap.size) (hc : w.frozen? ⟨b, o, none⟩ = false) (hr : row ≠ some b) : w'.frozen? ⟨b, o, none⟩ = false := by
  simp only [World.frozen?] at hc ⊢
  rw [h.block b hb (fun e => hr e.symm)]
  exact hc
theorem set_cell {w : World} {g c b o : Nat} {u v : Value} (hne : b ≠ g) (hc : w.cell? ⟨b, o, none⟩ = some v) : (w.setCell ⟨g, c, none⟩ u).cell? ⟨b, o, none⟩ = some v := by
  simp only [World.cell?] at hc ⊢
  rw [Below.heap_setCell _ _ _ _ hne]
  exact hc
def kidT (T : Nat → Br) (q n : Nat) (kv : Value) : Nat → Br := fun j => if j = q then { T q with kv := kv, kids := (T q).kids ++ [n] } else T j
/-- The kids of branch q have grown by one, and the branch holds them. -/
theorem kid_step {w w2 : World} {B g n cap q : Nat} {T : Nat → Br} {kv kvq x0 x1 x2 : Value} {t1 : TypeId} {o2 : Obj} (ht : TreeAt w B (.slice (some ⟨g, 0, none⟩) n cap) n T) (hqn : q < n) (hl : (T q).kids.length + 1 ≤ n) (hkq : (T q).kv = kvq)
    (hown : w2.ownsRow B 2 1 kv ((T q).kids.length + 1) (kidVals (T q).kids ++ [.int .i64 (n : Int)])) (hg : ((w.alloc (.cells #[x0, x1, x2] t1)).alloc o2).grownBy w2 kvq.ownBlock) (hat : kv.ownBlock = kvq.ownBlock ∨ kv.ownBlock = some ((w.alloc (.cells #[x0, x1, x2] t1)).alloc o2).heap.size) :
    ∃ gk ck, kv = .slice (some ⟨gk, 0, none⟩) ((T q).kids.length + 1) ck ∧ w2.cell? ⟨g, q * 6 + 5, none⟩ = some kvq ∧ w2.frozen? ⟨g, q * 6 + 5, none⟩ = false ∧ w.heap.size + 2 ≤ w2.heap.size ∧
      (w2.setCell ⟨g, q * 6 + 5, none⟩ kv).cell? ⟨w.heap.size, 0, none⟩ = some x0 ∧ (w2.setCell ⟨g, q * 6 + 5, none⟩ kv).cell? ⟨w.heap.size, 1, none⟩ = some x1 ∧ (w2.setCell ⟨g, q * 6 + 5, none⟩ kv).cell? ⟨w.heap.size, 2, none⟩ = some x2 ∧
      TreeAt (w2.setCell ⟨g, q * 6 + 5, none⟩ kv) B (.slice (some ⟨g, 0, none⟩) n cap) n (kidT T q n kv) ∧ KeptOff w (w2.setCell ⟨g, q * 6 + 5, none⟩ kv) (.slice (some ⟨g, 0, none⟩) n cap) n T := by
  subst hkq
  have hb0 : Below w.heap.size w ((w.alloc (.cells #[x0, x1, x2] t1)).alloc o2) := ((Below.refl _ w).alloc (Nat.le_refl _) _).alloc (by simp) _
  have ht1 := ht.below hb0
  obtain ⟨gk, ck, hkv⟩ := ownsRow_succ hown
  obtain ⟨g', e1, _, hBg, hgl, _, _, _, _, _, c5, hfz⟩ := ht1.at hqn
  simp only [Option.some.injEq, Addr.mk.injEq, and_true] at e1
  subst e1
  obtain ⟨g2, e2, _, _, hgw, _⟩ := ht.at hqn
  simp only [Option.some.injEq, Addr.mk.injEq, and_true] at e2
  subst e2
  have hrq : (T q).kv.ownBlock ≠ some g := fun e => ht.sepv q hqn g e rfl
  have hrw : (T q).kv.ownBlock ≠ some w.heap.size := fun e => by have := (own_lt (ht.kids q hqn) e).2; omega
  have hcx : ∀ c x, #[x0, x1, x2][c]? = some x → (w2.setCell ⟨g, q * 6 + 5, none⟩ kv).cell? ⟨w.heap.size, c, none⟩ = some x := fun c x hx => by
    refine set_cell (by omega) (grown_cell hg ?_ hrw)
    go_simp
  have hz := hg.size
  simp only [World.size_alloc] at hz
  refine ⟨gk, ck, hkv, grown_cell hg c5 hrq, grown_free hg hgl (hfz _) hrq, by omega, hcx 0 _ rfl, hcx 1 _ rfl, hcx 2 _ rfl, ht1.kid hqn hl hown hg hat, ?_⟩
  exact ((((KeptOff.of_below (Below.refl _ w)).alloc _).alloc _).grown hg (fun b ho e => ho.2 q hqn e)).set (show own (.slice (some ⟨g, 0, none⟩) n cap) g from rfl) _
theorem kidT_old {T : Nat → Br} {q n : Nat} {kv : Value} (j : Nat) (hj : j < n) : (kidT T q n kv j).tag = (T j).tag ∧ (kidT T q n kv j).par = (T j).par ∧ (kidT T q n kv j).va = (T j).va ∧ (kidT T q n kv j).deep = (T j).deep ∧ (kidT T q n kv j).kids = (T j).kids ++ (if (j : Int) = (q : Int) then [n] else []) := by
  unfold kidT
  by_cases e : j = q
  · subst e; simp
  · have : ¬ ((j : Int) = (q : Int)) := by omega
    simp [e, this]
/-- A branch was put behind all others. -/
theorem push_done {w w1 w2 : World} {B n d : Nat} {v v' : Value} {T T1 : Nat → Br} {tag : ByteArray} {p : Int} {va : Value} (h : TreeAt w1 B v n T1) (hk : KeptOff w w1 v n T)
    (hold : ∀ j, j < n → (T1 j).tag = (T j).tag ∧ (T1 j).par = (T j).par ∧ (T1 j).va = (T j).va ∧ (T1 j).deep = (T j).deep ∧ (T1 j).kids = (T j).kids ++ (if (j : Int) = p then [n] else []))
    (hown : w2.ownsRow B 138 6 v' (n + 1) (flat (fun j => (T1 j).cells) n ++ [.string tag, .int .i64 p, va, .int .i64 p, .int .i64 (d : Int), .slice none 0 0])) (hg : w1.grownBy w2 v.ownBlock) (hat : v'.ownBlock = v.ownBlock ∨ v'.ownBlock = some w1.heap.size) :
    (∃ T', TreeAt w2 B v' (n + 1) T' ∧ Grew T T' n p tag va d) ∧ KeptOff w w2 v n T := by
  refine ⟨⟨fun j => if j = n then ⟨tag, p, va, d, .slice none 0 0, []⟩ else T1 j, h.push (b := ⟨tag, p, va, d, .slice none 0 0, []⟩) rfl rfl hown hg hat, ?_, ?_, ?_, ?_, ?_, ?_⟩, hk.grown hg (fun b ho e => ho.1 e)⟩
  · intro j hj
    simp only [show ¬ j = n by omega, if_false]
    exact hold j hj
  all_goals simp only [if_true]
set_option maxRecDepth 100000 in
set_option maxHeartbeats 4000000 in
theorem fillTree (es : List ElemD) (T : Nat → Br) (S : List Nat) (B : Nat) (v : Value) (n : Nat) (tag : ByteArray) (p : Int) (a3 : Option Addr) (n3 c3 : Nat) (w : World) (hn : n ≤ 40) (hle : n ≤ es.length) (hB : B ≤ w.heap.size) (ht : TreeAt w B v n T)
    (hT : ∀ j (h : j < es.length), j < n → (T j).par = es[j].parent) (hc : Chain es S) (h1 : top S = (n : Int) - 1) (hd : DeepOn T S) (h8 : S.length ≤ 8) (hlt : ∀ j, j < n → (T j).kids.length < n) :
    Calls Tryz.prog 82 #[v, .agg #[.string tag, .int .i64 p, .slice a3 n3 c3], .int .i64 p, .int .i64 8] w fun e w' =>
      (∃ v', e = .returned (.tuple #[v', .int .i64 (fcode n S p)]) ∧ (fcode n S p ≠ 0 → v' = .slice none 0 0) ∧
        (fcode n S p = 0 → ∃ T', TreeAt w' B v' (n + 1) T' ∧ Grew T T' n p tag (.slice a3 n3 c3) ((cutTo p S).length + 1))) ∧ KeptOff w w' v n T := by
  obtain ⟨a, cap, rfl⟩ := ht.slice
  have hb0 : Below w.heap.size w (w.alloc (.cells #[.string tag, .int .i64 p, .slice a3 n3 c3] 53)) := (Below.refl _ w).alloc (Nat.le_refl _) _
  have HPF := hid (parentFault es T S B _ n p (w.alloc (.cells #[.string tag, .int .i64 p, .slice a3 n3 c3] 53)) (by omega) hle (ht.below hb0) hT hc h1)
  have HT := hid ht
  have HD := hid hd
  have H1 := hid h1
  have HC := hid hc
  clear ht hT hd h1 hc
  by_cases hpf : pfault n S p = 0
  · have b1 : (pfault n S p != 0) = false := by simp [hpf]
    obtain ⟨i0, hi, hz0, hz1, hz2⟩ := info_parts infoBranch
    obtain ⟨j0, hj, hy0, hy1, hy2⟩ := info_parts infoI64
    have HPF' : Hid (Calls Tryz.prog 106 #[.slice a n cap, .int .i64 p] (w.alloc (.cells #[.string tag, .int .i64 p, .slice a3 n3 c3] 53)) fun e w' => e = .returned (.int .i64 0) ∧ w' = (w.alloc (.cells #[.string tag, .int .i64 p, .slice a3 n3 c3] 53))) := hid (by have h := HPF.out; rw [hpf] at h; exact h)
    clear HPF
    by_cases hp : p = -1
    · have h0 : n = 0 := by
        unfold pfault at hpf
        by_cases h0 : n = 0
        · exact h0
        · rw [if_neg h0, if_neg (by omega)] at hpf
          omega
      have hS : S = [] := by
        cases S with
        | nil => rfl
        | cons x r => have h := H1.out; exact absurd h (by show ¬ ((x : Int) = _); omega)
      have hcut : (cutTo p S).length = 0 := by rw [hS]; rfl
      have HV : Hid (fcode n S p = 0) := hid (by unfold fcode; rw [if_neg (by simp [hpf]), if_neg (by omega)])
      have b2 : (p != -1) = false := by simp [hp]
      have HCL := hid hcut
      have hrow := HT.out.row
      have HP := hid hp
      clear hpf hp hS hcut HC H1 HD
      have HN0 := hid h0
      clear h0
      go_enter Tryz.func82, Tryz.ntmps82
      go_wp2_with (first | (go_at_call 106; refine HPF'.out.mono ?_; rintro e w' ⟨rfl, rfl⟩) | (at_builtin; go_must (refine wpList_append_own_at _ rfl _ _ 87 rfl B 138 i0 (.agg #[.string { data := #[] }, .int .i64 0, .slice none 0 0, .int .i64 0, .int .i64 0, .slice none 0 0]) 6 88 Tryz.underlying87 hi hz0 hz1 hz2 rfl (by decide) _ _ _ rfl ((hrow.alloc _).alloc _) ⟨w.heap.size + 1, 0, none⟩ 1 1 [.string tag, .int .i64 p, .slice a3 n3 c3, .int .i64 p, .int .i64 1, .slice none 0 0] rfl rfl (cell_six _ _ (by simp) _ _ _ _ _ _ _) (by simp [Value.oneCell']) (by unfold maxLen; omega) (by omega) (by simp; omega) ?_); intro v' w2 hown' hgrow _ hat))
      go_ret2
      have hd := push_done (d := 1) (va := .slice a3 n3 c3) (T := T) (T1 := T) (w := w) ((HT.out.below hb0).below ((Below.refl _ _).alloc (Nat.le_refl _) _)) (((KeptOff.of_below (Below.refl _ w)).alloc _).alloc _) (fun j hj => by have := HN0.out; omega) hown' hgrow hat
      refine ⟨⟨_, by rw [HV.out]; rfl, fun e => absurd HV.out e, fun _ => ?_⟩, hd.2⟩
      rw [HCL.out]
      exact hd.1
    · have hpp : n ≠ 0 ∧ 0 ≤ p ∧ p < n ∧ onPath p S = true := by
        unfold pfault at hpf
        by_cases h0 : n = 0
        · rw [if_pos h0, if_neg hp] at hpf
          omega
        · rw [if_neg h0] at hpf
          by_cases h2 : 0 ≤ p ∧ p < (n : Int)
          · rw [if_pos h2] at hpf
            refine ⟨h0, h2.1, h2.2, ?_⟩
            cases hb : onPath p S
            · rw [hb] at hpf; simp at hpf
            · rfl
          · rw [if_neg h2] at hpf
            omega
      obtain ⟨hn0, hp0, hpn, hon⟩ := hpp
      have hda := deep_at HD.out hon
      have hcl : (cutTo p S).length ≤ 8 := Nat.le_trans cut_le h8
      obtain ⟨q, hq⟩ : ∃ q : Nat, p = (q : Int) := ⟨p.toNat, by omega⟩
      rw [hq, Int.toNat_natCast] at hda
      have hqn : q < n := by omega
      have b2 : ((q : Int) != -1) = true := bne_iff_ne.2 (by omega)
      have HF : Hid (fcode n S p = if 8 < (cutTo p S).length + 1 then 2 else 0) := hid (by unfold fcode; rw [if_neg (by simp [hpf])])
      subst hq
      obtain ⟨g, rfl, _, hBg, hg, c0, c1, c2, c3', c4, c5, hfz⟩ := HT.out.at hqn
      rw [hda] at c4
      clear c0 c1 c2 c3' hpf hp hon HC H1 HD hn0 hda
      generalize (cutTo (q : Int) S).length = dq at *
      by_cases h9 : 8 < dq + 1
      · have HV : Hid (fcode n S (q : Int) = 2) := hid (by rw [HF.out, if_pos h9])
        have b3 : (8 : Int) < 1 + (dq : Int) := by omega
        clear HF h9
        go_enter Tryz.func82, Tryz.ntmps82
        go_wp2_with (go_at_call 106; refine HPF'.out.mono ?_; rintro e w' ⟨rfl, rfl⟩)
        go_ret2
        exact ⟨⟨_, by rw [HV.out]; rfl, fun _ => rfl, fun e => by rw [HV.out] at e; omega⟩, KeptOff.of_below hb0⟩
      · have HV : Hid (fcode n S (q : Int) = 0) := hid (by rw [HF.out, if_neg h9])
        have b3 : ¬ (8 : Int) < 1 + (dq : Int) := by omega
        clear HF h9
        have hkq := HT.out.kids q hqn
        have hlk' : (T q).kids.length + 1 ≤ n := hlt q hqn
        have hlk : (T q).kids.length ≤ n := by omega
        have hrq : (T q).kv.ownBlock ≠ some g := fun e => HT.out.sepv q hqn g e rfl
        have hrw : (T q).kv.ownBlock ≠ some w.heap.size := fun e => by have := (own_lt hkq e).2; omega
        have hgw : g ≠ w.heap.size := by omega
        have hwg : w.heap.size ≠ g := by omega
        obtain ⟨kvq, hkvq⟩ : ∃ x, (T q).kv = x := ⟨_, rfl⟩
        have hsl : ∃ x y, kvq = .slice x (T q).kids.length y := by
          rw [← hkvq]
          rcases hkq.2 with ⟨e1, e2⟩ | ⟨x, y, _, e1, _⟩
          · exact ⟨none, 0, by rw [e1, e2]⟩
          · exact ⟨_, _, e1⟩
        rw [hkvq] at c5 hkq hrq hrw
        have HKQ := hid hkvq
        clear hkvq
        obtain ⟨xk, yk, rfl⟩ := hsl
        have hfz5 := hfz (q * 6 + 5)
        go_enter Tryz.func82, Tryz.ntmps82
        go_wp2_with (first
          | (go_at_call 106; refine HPF'.out.mono ?_; rintro e w' ⟨rfl, rfl⟩)
          | (at_builtin; (refine wpList_append_own_at _ rfl _ _ 108 rfl B 2 j0 (.int .i64 0) 1 8 Tryz.underlying108 hj hy0 hy1 hy2 rfl (by decide) _ _ _ rfl ((hkq.alloc _).alloc _) ⟨w.heap.size + 1, 0, none⟩ 1 1 [.int .i64 (n : Int)] rfl rfl (cell_one _ _ (by simp) _ _) (by simp [Value.oneCell']) (by unfold maxLen; omega) (by omega) (by simp; omega) ?_); intro kv w2 hown1 hg1 _ hat1; obtain ⟨gk, ck, rfl, s1, s2, s3, s4, s5, s6, hT3, hK3⟩ := kid_step HT.out hqn hlk' HKQ.out hown1 hg1 hat1; have HT3 := hid hT3; have HK3 := hid hK3; have hrow3 := hT3.row; clear hT3 hK3 hown1 hg1 hat1)
          | (at_builtin; go_must (refine wpList_append_own_at _ rfl _ _ 87 rfl B 138 i0 (.agg #[.string { data := #[] }, .int .i64 0, .slice none 0 0, .int .i64 0, .int .i64 0, .slice none 0 0]) 6 88 Tryz.underlying87 hi hz0 hz1 hz2 rfl (by decide) _ _ _ rfl (hrow3.alloc _) ⟨w2.heap.size, 0, none⟩ 1 1 [.string tag, .int .i64 (q : Int), .slice a3 n3 c3, .int .i64 (q : Int), .int .i64 (1 + (dq : Int)), .slice none 0 0] rfl rfl (cell_six _ _ (by simp) _ _ _ _ _ _ _) (by simp [Value.oneCell']) (by unfold maxLen; omega) (by omega) (by simp; omega) ?_); intro v' w4 hown2 hg2 _ hat2))
        go_ret2
        have hB3 : Below (w2.setCell ⟨g, q * 6 + 5, none⟩ (.slice (some ⟨gk, 0, none⟩) ((T q).kids.length + 1) ck)).heap.size (w2.setCell ⟨g, q * 6 + 5, none⟩ (.slice (some ⟨gk, 0, none⟩) ((T q).kids.length + 1) ck)) ((w2.setCell ⟨g, q * 6 + 5, none⟩ (.slice (some ⟨gk, 0, none⟩) ((T q).kids.length + 1) ck)).alloc (.cells #[.string tag, .int .i64 (q : Int), .slice a3 n3 c3, .int .i64 (q : Int), .int .i64 (1 + (dq : Int)), .slice none 0 0] 138)) := (Below.refl _ _).alloc (Nat.le_refl _) _
        have hd := push_done (d := dq + 1) (va := .slice a3 n3 c3) (T := T) (T1 := kidT T q n (.slice (some ⟨gk, 0, none⟩) ((T q).kids.length + 1) ck)) (w := w) (p := (q : Int)) (tag := tag) (v' := v') (w2 := w4) (HT3.out.below hB3) (HK3.out.alloc _) kidT_old (by
          have e1 : ((dq + 1 : Nat) : Int) = 1 + (dq : Int) := by omega
          rw [e1]
          exact hown2) hg2 hat2
        exact ⟨⟨_, by rw [HV.out]; rfl, fun e => absurd HV.out e, fun _ => hd.1⟩, hd.2⟩
  · have b1 : (pfault n S p != 0) = true := by simpa using hpf
    have HV : Hid (fcode n S p = pfault n S p) := hid (by unfold fcode; rw [if_pos hpf])
    have HN := hid hpf
    clear hpf
    go_enter Tryz.func82, Tryz.ntmps82
    go_wp2_with (go_at_call 106; refine HPF.out.mono ?_; rintro e w' ⟨rfl, rfl⟩)
    go_ret2
    exact ⟨⟨_, by rw [HV.out]; rfl, fun _ => rfl, fun e => absurd (by rw [← HV.out]; exact e) HN.out⟩, KeptOff.of_below hb0⟩
end Tr
end Go.Proofs.YtgghigfflpbjiaaGreatDoor
/- Elements as the program's tree; TreeFault of the program. Condition: the table of entities lies as its initialiser lays it. -/
namespace Go.Proofs.YtgghigfflpbjiaaGreatDoor
open Go.RowKit
set_option linter.unusedVariables false
namespace Tr
/-- The places, ahead of n, of those whose parent is j. -/
def kidsN (es : List ElemD) (n j : Nat) : List Nat := (List.range n).filter fun i => (es[i]?.map (·.parent)) == some (j : Int)
theorem kidsN_succ {es : List ElemD} {n j : Nat} (h : n < es.length) : kidsN es (n + 1) j = kidsN es n j ++ (if (j : Int) = es[n].parent then [n] else []) := by
  unfold kidsN
  rw [List.range_succ, List.filter_append]
  congr 1
  by_cases e : (j : Int) = es[n].parent
  · simp [List.getElem?_eq_getElem h, e]
  · have : ¬ (es[n].parent = (j : Int)) := fun h => e h.symm
    simp [List.getElem?_eq_getElem h, e, this]
theorem kidsN_lt {es : List ElemD} {n j : Nat} (hn : 0 < n) (h : n ≤ es.length) (h0 : ∀ h : 0 < es.length, es[0].parent < 0) : (kidsN es n j).length < n := by
  unfold kidsN
  have : List.range n = 0 :: (List.range (n - 1)).map (· + 1) := by
    rw [← List.range_succ_eq_map]; congr 1; omega
  rw [this, List.filter_cons]
  have hb : ((es[0]?.map (·.parent)) == some (j : Int)) = false := by
    rw [List.getElem?_eq_getElem (by omega), Option.map_some, beq_eq_false_iff_ne]
    intro e
    have e2 := Option.some.inj e
    have := h0 (by omega)
    omega
  rw [hb]
  have := List.length_filter_le (fun i => (es[i]?.map (·.parent)) == some (j : Int)) ((List.range (n - 1)).map (· + 1))
  simp only [List.length_map, List.length_range] at this
  simp only [Bool.false_eq_true, if_false]
  omega
/-- The tree is that of the elements, as far as n. -/
structure TreeIs (w : World) (es : List ElemD) (n : Nat) (T : Nat → Br) : Prop where
  tag : ∀ j (h : j < es.length), j < n → (T j).tag = es[j].tag
  par : ∀ j (h : j < es.length), j < n → (T j).par = es[j].parent
  va : ∀ j (h : j < es.length), j < n → AttrsAt w 0 (T j).va es[j].attrs
  kids : ∀ j, j < n → (T j).kids = kidsN es n j
  low : ∀ j (h : j < es.length), j < n → es[j].parent < j
theorem TreeIs.below {w w' : World} {es : List ElemD} {n : Nat} {T : Nat → Br} (h : TreeIs w es n T) (hb : ∀ {v ats}, AttrsAt w 0 v ats → AttrsAt w' 0 v ats) : TreeIs w' es n T := ⟨h.tag, h.par, fun j h1 h2 => hb (h.va j h1 h2), h.kids, h.low⟩
theorem TreeIs.grew {w : World} {es : List ElemD} {n d : Nat} {T T' : Nat → Br} {va : Value} (h : TreeIs w es n T) (hn : n < es.length) (hg : Grew T T' n es[n].parent es[n].tag va d) (hva : AttrsAt w 0 va es[n].attrs) (hlow : es[n].parent < n) : TreeIs w es (n + 1) T' := by
  refine ⟨fun j h1 h2 => ?_, fun j h1 h2 => ?_, fun j h1 h2 => ?_, fun j h2 => ?_, fun j h1 h2 => ?_⟩
  · by_cases e : j = n
    · subst e; exact hg.tag
    · rw [(hg.old j (by omega)).1]; exact h.tag j h1 (by omega)
  · by_cases e : j = n
    · subst e; exact hg.par
    · rw [(hg.old j (by omega)).2.1]; exact h.par j h1 (by omega)
  · by_cases e : j = n
    · subst e; rw [hg.va]; exact hva
    · rw [(hg.old j (by omega)).2.2.1]; exact h.va j h1 (by omega)
  · rw [kidsN_succ hn]
    by_cases e : j = n
    · subst e
      rw [hg.kids, if_neg (by omega), List.append_nil]
      symm
      unfold kidsN
      rw [List.filter_eq_nil_iff]
      intro i hi
      have hi' : i < j := by simpa using hi
      rw [List.getElem?_eq_getElem (by omega), Option.map_some, beq_iff_eq]
      intro e
      have e2 := Option.some.inj e
      have := h.low i (by omega) hi'
      omega
    · rw [(hg.old j (by omega)).2.2.2.2, h.kids j (by omega)]
  · by_cases e : j = n
    · subst e; exact hlow
    · exact h.low j h1 (by omega)
theorem TreeIs.start (w : World) (es : List ElemD) (T : Nat → Br) : TreeIs w es 0 T := ⟨fun j _ h => by omega, fun j _ h => by omega, fun j _ h => by omega, fun j h => by omega, fun j _ h => by omega⟩
theorem f_range {es : List ElemD} {i : Nat} {S : List Nat} (h : i < es.length) (hp : (i = 0 ∧ es[i].parent ≠ -1) ∨ (0 < i ∧ ¬ (0 ≤ es[i].parent ∧ es[i].parent < i))) : fcode i S es[i].parent = 3 := by
  have : pfault i S es[i].parent = 3 := by
    unfold pfault
    rcases hp with ⟨h0, hp⟩ | ⟨h0, hp⟩
    · rw [if_pos h0, if_neg hp]
    · rw [if_neg (by omega), if_neg hp]
  unfold fcode
  rw [this]
  rfl
theorem f_form {es : List ElemD} {i : Nat} {S : List Nat} (h : i < es.length) (hp : ¬ ((i = 0 ∧ es[i].parent ≠ -1) ∨ (0 < i ∧ ¬ (0 ≤ es[i].parent ∧ es[i].parent < i)))) (hf : 0 < i ∧ onPath es[i].parent S = false) : fcode i S es[i].parent = 1 := by
  have : pfault i S es[i].parent = 1 := by
    unfold pfault
    rw [if_neg (by omega), if_pos (Classical.byContradiction (fun e => hp (.inr ⟨hf.1, e⟩))), hf.2]
    rfl
  unfold fcode
  rw [this]
  rfl
theorem f_else {es : List ElemD} {i : Nat} {S : List Nat} (h : i < es.length) (hp : ¬ ((i = 0 ∧ es[i].parent ≠ -1) ∨ (0 < i ∧ ¬ (0 ≤ es[i].parent ∧ es[i].parent < i)))) (hf : ¬ (0 < i ∧ onPath es[i].parent S = false)) : fcode i S es[i].parent = if 8 < (cutTo es[i].parent S).length + 1 then 2 else 0 := by
  have : pfault i S es[i].parent = 0 := by
    unfold pfault
    by_cases h0 : i = 0
    · rw [if_pos h0, if_pos (Classical.byContradiction (fun e => hp (.inl ⟨h0, e⟩)))]
    · rw [if_neg h0, if_pos (Classical.byContradiction (fun e => hp (.inr ⟨by omega, e⟩)))]
      cases hb : onPath es[i].parent S
      · exact absurd ⟨by omega, hb⟩ hf
      · rfl
  unfold fcode
  rw [this]
  rfl
theorem low_of {es : List ElemD} {i : Nat} (h : i < es.length) (hp : ¬ ((i = 0 ∧ es[i].parent ≠ -1) ∨ (0 < i ∧ ¬ (0 ≤ es[i].parent ∧ es[i].parent < i)))) : es[i].parent < i := by
  rcases Nat.eq_zero_or_pos i with h0 | h0
  · have : ¬ es[i].parent ≠ -1 := fun e => hp (.inl ⟨h0, e⟩)
    omega
  · have : ¬ ¬ (0 ≤ es[i].parent ∧ es[i].parent < i) := fun e => hp (.inr ⟨h0, e⟩)
    omega
/-- How far the program has come. -/
structure Built (w wr : World) (es : List ElemD) (i : Nat) (S : List Nat) (v : Value) (T : Nat → Br) : Prop where
  seen : Seen es i S
  tree : TreeAt wr w.heap.size v i T
  is : TreeIs w es i T
  deep : DeepOn T S
  below : Below w.heap.size w wr
theorem Built.lens {w wr : World} {es : List ElemD} {i : Nat} {S : List Nat} {v : Value} {T : Nat → Br} (h : Built w wr es i S v T) : ∀ j, j < i → (T j).kids.length < i := fun j hj => by
  rw [h.is.kids j hj]
  exact kidsN_lt (by omega) h.seen.le (fun h0 => by have := h.is.low 0 h0 (by omega); simpa using this)
end Tr
end Go.Proofs.YtgghigfflpbjiaaGreatDoor
/- elemTree and TreeFault of the program. Condition: the table of entities lies as its initialiser lays it. -/
namespace Go.Proofs.YtgghigfflpbjiaaGreatDoor
open Go.RowKit
set_option linter.unusedVariables false
namespace Tr
theorem small_elem {n : Int} {es : List ElemD} {i : Nat} (h : SmallE n es) (hi : i < es.length) : (es[i].attrs.length : Int) ≤ n := (h.2 es[i] (List.getElem_mem hi)).2.1
theorem off_cell {w w' : World} {v x : Value} {n b o : Nat} {T : Nat → Br} (h : KeptOff w w' v n T) (ho : Off v n T b) (hc : w.cell? ⟨b, o, none⟩ = some x) : w'.cell? ⟨b, o, none⟩ = some x := by
  have hb : b < w.heap.size := by
    rcases Nat.lt_or_ge b w.heap.size with h1 | h1
    · exact h1
    · simp [World.cell?, Array.getElem?_eq_none h1] at hc
  simp only [World.cell?] at hc ⊢
  rw [h.block b hb ho]
  exact hc
set_option maxRecDepth 100000 in
set_option maxHeartbeats 4000000 in
theorem elemTree (es : List ElemD) (v : Value) (w : World) (hl : SmallE 1048576 es) (hk : OkE es) (ha : ElemsAt w 0 v es) (he : Esc.Ent w) (hw : 2 < w.heap.size) :
    Calls Tryz.prog 50 #[v] w fun e w' => (∃ v', e = .returned (.tuple #[v', .int .i64 (fault es)]) ∧ (fault es ≠ 0 → v' = .slice none 0 0) ∧
      (fault es = 0 → ∃ T, TreeAt w' w.heap.size v' es.length T ∧ TreeIs w es es.length T)) ∧ Below w.heap.size w w' := by
  obtain ⟨a, cap, rfl⟩ := ha.slice
  have HA := hid ha
  have HK := hid hk
  have HE := hid he
  have HL := hid hl
  have hlen := hl.1
  clear ha hk he hl
  by_cases z1 : es.length < 1
  · have HV := hid (fault_many (.inl z1))
    have q : (es.length : Int) < 1 := by omega
    go_enter Tryz.func50, Tryz.ntmps50
    go_wp2
    go_ret2
    exact ⟨⟨_, by rw [HV.out]; rfl, fun _ => rfl, fun e => by rw [HV.out] at e; omega⟩, Below.refl _ _⟩
  by_cases z2 : 40 < es.length
  · have HV := hid (fault_many (.inr z2))
    have q : ¬ (es.length : Int) < 1 := by omega
    have q' : (40 : Int) < (es.length : Int) := by omega
    go_enter Tryz.func50, Tryz.ntmps50
    go_wp2
    go_ret2
    exact ⟨⟨_, by rw [HV.out]; rfl, fun _ => rfl, fun e => by rw [HV.out] at e; omega⟩, Below.refl _ _⟩
  have q : ¬ (es.length : Int) < 1 := by omega
  have q' : ¬ (40 : Int) < (es.length : Int) := by omega
  have HZ := hid (Seen.start z1 z2)
  have hl40 : es.length ≤ 40 := by omega
  clear z1 z2
  go_enter Tryz.func50, Tryz.ntmps50
  go_wp2
  go_loopw [4, 5, 7, 18] (fun t _ _ x wr => ∃ (i : Nat) (S : List Nat) (T : Nat → Br), x = .int .i64 i ∧ i ≤ es.length ∧ (∃ a4 c4, t = .slice a4 i c4) ∧ Hid (Built w wr es i S t T)) (fun _ _ _ x _ => es.length - (intOf x).toNat)
  case atStart => exact ⟨0, [], fun _ => ⟨ByteArray.empty, 0, .slice none 0 0, 0, .slice none 0 0, []⟩, rfl, Nat.zero_le _, ⟨_, _, rfl⟩, HZ.out, TreeAt.nil _ _ _, TreeIs.start _ _ _, trivial, Below.refl _ _⟩
  case round =>
    obtain ⟨i, S, T, rfl, hil, ⟨a4, c4, rfl⟩, HB⟩ := hrel
    have hZ := HB.out.below.size
    by_cases hlt : i < es.length
    · obtain ⟨g, o, va, rfl, hg0, d0, d1, d2, hva⟩ := HA.out.at hlt
      obtain ⟨b, e2, rfl⟩ := hva.slice
      have c0 := (HB.out.below.cell (p := ⟨g, o + i * 3, none⟩) hg0).trans d0
      have c1 := (HB.out.below.cell (p := ⟨g, o + i * 3 + 1, none⟩) hg0).trans d1
      have c2 := (HB.out.below.cell (p := ⟨g, o + i * 3 + 2, none⟩) hg0).trans d2
      have hg : g < wr.heap.size := Nat.lt_of_lt_of_le hg0 hZ
      have HVA := hid hva
      clear d0 d1 d2 hva
      have q1 : (i : Int) < (es.length : Int) := by omega
      have hkk := HK.out es[i] (List.getElem_mem hlt)
      have k1 := hkk.1
      have HKA := hid hkk.2.1
      clear hkk
      have HN := hid (fun w' => impl_nf es[i].tag w' k1)
      have hB0 : Below wr.heap.size wr (wr.alloc (.cells #[.string es[i].tag, .int .i64 es[i].parent, .slice b es[i].attrs.length e2] 53)) := (Below.refl _ wr).alloc (Nat.le_refl _) _
      have hBw : Below w.heap.size w (wr.alloc (.cells #[.string es[i].tag, .int .i64 es[i].parent, .slice b es[i].attrs.length e2] 53)) := HB.out.below.alloc hZ _
      by_cases hn : nf es[i].tag.data.toList = 0
      · have b1 : (nf es[i].tag.data.toList != 0) = false := by simp [hn]
        have HF := hid (fillTree es T S w.heap.size (.slice a4 i c4) i es[i].tag es[i].parent b es[i].attrs.length e2 (wr.alloc (.cells #[.string es[i].tag, .int .i64 es[i].parent, .slice b es[i].attrs.length e2] 53)) (by omega) hil (by simp; omega) (HB.out.tree.below hB0) (fun j h hj => HB.out.is.par j h hj) HB.out.seen.chain HB.out.seen.first HB.out.deep HB.out.seen.deep HB.out.lens)
        have HT0 := hid (HB.out.tree.below hB0)
        have HOFF := hid (off_new HB.out.tree (Nat.le_refl _))
        by_cases hp : (i = 0 ∧ es[i].parent ≠ -1) ∨ (0 < i ∧ ¬ (0 ≤ es[i].parent ∧ es[i].parent < i))
        · have HV := hid (HB.out.seen.range hlt hn hp)
          have HC := hid (f_range (S := S) hlt hp)
          clear hp hn
          go_wp2_with (first | (go_at_call 81; refine (HN.out _).mono ?_; rintro e w' ⟨rfl, rfl⟩) | (go_at_call 82; refine HF.out.mono ?_; rintro e w2 ⟨⟨v', rfl, hv1, _⟩, hk2⟩; obtain rfl := hv1 (by rw [HC.out]; decide); rw [HC.out]))
          go_ret2
          exact ⟨⟨_, by rw [HV.out]; rfl, fun _ => rfl, fun e => by rw [HV.out] at e; omega⟩, hBw.trans (hk2.below HT0.out (by simp; omega))⟩
        · by_cases hf : 0 < i ∧ onPath es[i].parent S = false
          · have HV := hid (HB.out.seen.form hlt hn hp hf)
            have HC := hid (f_form hlt hp hf)
            clear hp hn hf
            go_wp2_with (first | (go_at_call 81; refine (HN.out _).mono ?_; rintro e w' ⟨rfl, rfl⟩) | (go_at_call 82; refine HF.out.mono ?_; rintro e w2 ⟨⟨v', rfl, hv1, _⟩, hk2⟩; obtain rfl := hv1 (by rw [HC.out]; decide); rw [HC.out]))
            go_ret2
            exact ⟨⟨_, by rw [HV.out]; rfl, fun _ => rfl, fun e => by rw [HV.out] at e; omega⟩, hBw.trans (hk2.below HT0.out (by simp; omega))⟩
          have hfe := f_else hlt hp hf
          by_cases h9 : 8 < (cutTo es[i].parent S).length + 1
          · have HV := hid (HB.out.seen.many hlt hn hp hf (.inl h9))
            have HC : Hid (fcode i S es[i].parent = 2) := hid (by rw [hfe, if_pos h9])
            clear hp hn hf hfe h9
            go_wp2_with (first | (go_at_call 81; refine (HN.out _).mono ?_; rintro e w' ⟨rfl, rfl⟩) | (go_at_call 82; refine HF.out.mono ?_; rintro e w2 ⟨⟨v', rfl, hv1, _⟩, hk2⟩; obtain rfl := hv1 (by rw [HC.out]; decide); rw [HC.out]))
            go_ret2
            exact ⟨⟨_, by rw [HV.out]; rfl, fun _ => rfl, fun e => by rw [HV.out] at e; omega⟩, hBw.trans (hk2.below HT0.out (by simp; omega))⟩
          have HC : Hid (fcode i S es[i].parent = 0) := hid (by rw [hfe, if_neg h9])
          have hsm : es[i].attrs.length ≤ 1048576 := by have := small_elem HL.out hlt; omega
          have HAT := hid (fun w' (hb : Below w.heap.size w w') => implAttrsFault 0 es[i].attrs (.slice b es[i].attrs.length e2) w' HKA.out hsm (HVA.out.below hb) (Esc.Ent.below HE.out hb hw) (by have := hb.size; omega))
          by_cases h6 : acodeI es[i].attrs = 0
          · have hnx : Seen es (i + 1) (i :: cutTo es[i].parent S) := by
              unfold acodeI at h6
              by_cases h7 : 6 < es[i].attrs.length
              · rw [if_pos h7] at h6; omega
              · rw [if_neg h7] at h6
                exact HB.out.seen.next hlt hn hp hf (by omega) h6
            have HNX := hid hnx
            have HLW := hid (low_of hlt hp)
            have b3 : (acodeI es[i].attrs != 0) = false := by simp [h6]
            clear hp hn hf hfe h9 h6 hnx
            go_wp2_with (first
              | (go_at_call 81; refine (HN.out _).mono ?_; rintro e w' ⟨rfl, rfl⟩)
              | (go_at_call 82; refine HF.out.mono ?_; rintro e w2 ⟨⟨v', rfl, _, hv2⟩, hk2⟩; obtain ⟨T', hT', hG'⟩ := hv2 HC.out; rw [HC.out]; obtain ⟨a5, c5, rfl⟩ := hT'.slice; have HT' := hid hT'; have HG' := hid hG'; have hBw2 : Below w.heap.size w w2 := hBw.trans (hk2.below HT0.out (by simp; omega)); have d2 : w2.cell? ⟨wr.heap.size, 2, none⟩ = some (.slice b es[i].attrs.length e2) := off_cell hk2 HOFF.out (by go_simp); clear hT' hG' hv2)
              | (go_at_call 83; refine (HAT.out _ hBw2).mono ?_; rintro e w3 ⟨rfl, hb3⟩))
            have hch := HNX.out.chain
            have hdp : DeepOn T' (i :: cutTo es[i].parent S) := ⟨HG'.out.deep, deep_congr (fun j hj => (HG'.out.old j hj).2.2.2.1) (chain_tail hch) (top_lt hch) (deep_cut HB.out.deep)⟩
            exact ⟨⟨i + 1, _, T', by simp, by omega, ⟨_, _, rfl⟩, HNX.out, HT'.out.below hb3, HB.out.is.grew hlt HG'.out HVA.out HLW.out, hdp, hBw2.trans (hb3.mono hBw2.size)⟩, by simp [intOf]; omega⟩
          · have HV : Hid (fault es = acodeI es[i].attrs) := hid (by
              unfold acodeI at h6 ⊢
              by_cases h7 : 6 < es[i].attrs.length
              · rw [if_pos h7]
                exact HB.out.seen.many hlt hn hp hf (.inr h7)
              · rw [if_neg h7] at h6 ⊢
                exact HB.out.seen.attr hlt hn hp hf (by omega) h6)
            have HNZ := hid h6
            have b3 : (acodeI es[i].attrs != 0) = true := by simpa using h6
            clear hp hn hf hfe h9 h6
            go_wp2_with (first
              | (go_at_call 81; refine (HN.out _).mono ?_; rintro e w' ⟨rfl, rfl⟩)
              | (go_at_call 82; refine HF.out.mono ?_; rintro e w2 ⟨⟨v', rfl, _, hv2⟩, hk2⟩; obtain ⟨T', hT', hG'⟩ := hv2 HC.out; rw [HC.out]; obtain ⟨a5, c5, rfl⟩ := hT'.slice; have hBw2 : Below w.heap.size w w2 := hBw.trans (hk2.below HT0.out (by simp; omega)); have d2 : w2.cell? ⟨wr.heap.size, 2, none⟩ = some (.slice b es[i].attrs.length e2) := off_cell hk2 HOFF.out (by go_simp); clear hT' hG' hv2)
              | (go_at_call 83; refine (HAT.out _ hBw2).mono ?_; rintro e w3 ⟨rfl, hb3⟩))
            go_ret2
            exact ⟨⟨_, by rw [HV.out]; rfl, fun _ => rfl, fun e => absurd (by rw [← HV.out]; exact e) HNZ.out⟩, hBw2.trans (hb3.mono hBw2.size)⟩
      · have b1 : (nf es[i].tag.data.toList != 0) = true := by simpa using hn
        have HV := hid (HB.out.seen.name hlt hn)
        have HNZ := hid hn
        clear hn
        go_wp2_with (go_at_call 81; refine (HN.out _).mono ?_; rintro e w' ⟨rfl, rfl⟩)
        go_ret2
        exact ⟨⟨_, by rw [HV.out]; rfl, fun _ => rfl, fun e => absurd (by rw [← HV.out]; exact e) HNZ.out⟩, hBw⟩
    · have HV := hid (HB.out.seen.done hlt)
      have hie : i = es.length := by omega
      have HI := hid hie
      clear hie
      go_wp2
      go_ret2
      refine ⟨⟨_, by rw [HV.out]; rfl, fun e => absurd HV.out e, fun _ => ⟨T, ?_, ?_⟩⟩, HB.out.below⟩
      · show TreeAt wr w.heap.size (.slice a4 i c4) es.length T
        rw [← HI.out]
        exact HB.out.tree
      · rw [← HI.out]
        exact HB.out.is
set_option maxRecDepth 100000 in
set_option maxHeartbeats 1000000 in
theorem implFault (es : List ElemD) (v : Value) (w : World) (hl : SmallE 1048576 es) (hk : OkE es) (ha : ElemsAt w 0 v es) (he : Esc.Ent w) (hw : 2 < w.heap.size) :
    Calls Tryz.prog 24 #[v] w fun e w' => e = .returned (.int .i64 (fault es)) ∧ Below w.heap.size w w' := by
  have HC := hid (elemTree es v w hl hk ha he hw)
  obtain ⟨a, cap, rfl⟩ := ha.slice
  clear ha hk hl he
  go_enter Tryz.func24, Tryz.ntmps24
  go_wp2_with (go_at_call 50; refine HC.out.mono ?_; rintro e w' ⟨⟨v', rfl, _, _⟩, hb⟩)
  go_ret
  exact ⟨rfl, hb⟩
end Tr
end Go.Proofs.YtgghigfflpbjiaaGreatDoor
/- The law's comparisons of elements: what is the same is told to be the same. -/
namespace Go.Proofs.YtgghigfflpbjiaaGreatDoor
open Go.RowKit
set_option linter.unusedVariables false
namespace Tr
theorem str_ne (s : ByteArray) : (s.toList != s.toList) = false := by simp
set_option maxRecDepth 100000 in
set_option maxHeartbeats 400000 in
theorem eqAttr (a : AttrD) (w : World) :
    Calls Tryz.prog 109 #[.agg #[.string a.name, .string a.value], .agg #[.string a.name, .string a.value]] w fun e w' => e = .returned (.bool true) ∧ Below w.heap.size w w' := by
  have h1 := str_ne a.name
  have h2 := str_ne a.value
  go_enter Tryz.func109, Tryz.ntmps109
  go_wp2
  go_ret
  exact ⟨rfl, ((Below.refl _ w).alloc (Nat.le_refl _) _).alloc (by simp) _⟩
set_option maxRecDepth 100000 in
set_option maxHeartbeats 2000000 in
theorem eqAttrS (B1 B2 : Nat) (ats : List AttrD) (v1 v2 : Value) (w : World) (hl : ats.length ≤ 1048576) (h1 : AttrsAt w B1 v1 ats) (h2 : AttrsAt w B2 v2 ats) :
    Calls Tryz.prog 84 #[v1, v2] w fun e w' => e = .returned (.bool true) ∧ Below w.heap.size w w' := by
  obtain ⟨a1, c1, rfl⟩ := h1.slice
  obtain ⟨a2, c2, rfl⟩ := h2.slice
  have H1 : Hid (AttrsAt w B1 (.slice a1 ats.length c1) ats) := h1
  have H2 : Hid (AttrsAt w B2 (.slice a2 ats.length c2) ats) := h2
  clear h1 h2
  have hb : ((ats.length : Int) != (ats.length : Int)) = false := by simp
  go_enter Tryz.func84, Tryz.ntmps84
  go_wp2
  go_loopw [5] (fun i wr => ∃ k : Nat, i = .int .i64 k ∧ k ≤ ats.length ∧ Below w.heap.size w wr) (fun i _ => ats.length - (intOf i).toNat)
  case atStart => exact ⟨0, rfl, Nat.zero_le _, Below.refl _ _⟩
  case round =>
    obtain ⟨k, rfl, hk, hbel⟩ := hrel
    by_cases hlt : k < ats.length
    · obtain ⟨g1, o1, rfl, hg1, p1, q1⟩ := (H1.out.below hbel).at hlt
      obtain ⟨g2, o2, rfl, hg2, p2, q2⟩ := (H2.out.below hbel).at hlt
      have r1 : (k : Int) < (ats.length : Int) := by omega
      have HE : Hid (∀ w : World, Calls Tryz.prog 109 #[.agg #[.string ats[k].name, .string ats[k].value], .agg #[.string ats[k].name, .string ats[k].value]] w fun e w' => e = .returned (.bool true) ∧ Below w.heap.size w w') := fun w => eqAttr ats[k] w
      go_wp2
      go_region_with ((go_at_call 109; refine (HE.out _).mono ?_; rintro e w1 ⟨rfl, hb1⟩; have hbb : Below wr.heap.size wr w1 := ((Below.refl wr.heap.size wr).drew).trans hb1))
      all_goals go_wp2
      all_goals exact ⟨⟨k + 1, by simp, by omega, hbel.trans (hbb.mono hbel.size)⟩, by simp [intOf]; omega⟩
    · go_wp2
      go_ret
      exact ⟨rfl, hbel⟩
set_option maxRecDepth 100000 in
set_option maxHeartbeats 400000 in
theorem eqElem (B1 B2 : Nat) (x : ElemD) (v1 v2 : Value) (w : World) (hl : x.attrs.length ≤ 1048576) (h1 : AttrsAt w B1 v1 x.attrs) (h2 : AttrsAt w B2 v2 x.attrs) :
    Calls Tryz.prog 51 #[.agg #[.string x.tag, .int .i64 x.parent, v1], .agg #[.string x.tag, .int .i64 x.parent, v2]] w fun e w' => e = .returned (.bool true) ∧ Below w.heap.size w w' := by
  obtain ⟨a1, c1, rfl⟩ := h1.slice
  obtain ⟨a2, c2, rfl⟩ := h2.slice
  have H1 : Hid (AttrsAt w B1 (.slice a1 x.attrs.length c1) x.attrs) := h1
  have H2 : Hid (AttrsAt w B2 (.slice a2 x.attrs.length c2) x.attrs) := h2
  clear h1 h2
  have h1 := str_ne x.tag
  have h2 : (x.parent != x.parent) = false := by simp
  go_enter Tryz.func51, Tryz.ntmps51
  go_wp2_with fail
  have hB : Below w.heap.size w ((w.alloc (.cells #[.string x.tag, .int .i64 x.parent, .slice a1 x.attrs.length c1] 53)).alloc (.cells #[.string x.tag, .int .i64 x.parent, .slice a2 x.attrs.length c2] 53)) := ((Below.refl _ w).alloc (Nat.le_refl _) _).alloc (by simp) _
  refine (eqAttrS B1 B2 x.attrs _ _ _ hl (H1.out.below hB) (H2.out.below hB)).mono ?_
  rintro e w1 ⟨rfl, hb1⟩
  go_wp2
  go_ret
  exact ⟨rfl, hB.trans (hb1.mono (by simp; omega))⟩
set_option maxRecDepth 100000 in
set_option maxHeartbeats 2000000 in
theorem eqElemS (B1 B2 : Nat) (es : List ElemD) (v1 v2 : Value) (w : World) (hl : SmallE 1048576 es) (h1 : ElemsAt w B1 v1 es) (h2 : ElemsAt w B2 v2 es) :
    Calls Tryz.prog 25 #[v1, v2] w fun e w' => e = .returned (.bool true) ∧ Below w.heap.size w w' := by
  obtain ⟨a1, c1, rfl⟩ := h1.slice
  obtain ⟨a2, c2, rfl⟩ := h2.slice
  have H1 : Hid (ElemsAt w B1 (.slice a1 es.length c1) es) := h1
  have H2 : Hid (ElemsAt w B2 (.slice a2 es.length c2) es) := h2
  have HL : Hid (SmallE 1048576 es) := hl
  have hlen := hl.1
  clear h1 h2 hl
  have hb : ((es.length : Int) != (es.length : Int)) = false := by simp
  go_enter Tryz.func25, Tryz.ntmps25
  go_wp2
  go_loopw [5] (fun i wr => ∃ k : Nat, i = .int .i64 k ∧ k ≤ es.length ∧ Below w.heap.size w wr) (fun i _ => es.length - (intOf i).toNat)
  case atStart => exact ⟨0, rfl, Nat.zero_le _, Below.refl _ _⟩
  case round =>
    obtain ⟨k, rfl, hk, hbel⟩ := hrel
    by_cases hlt : k < es.length
    · obtain ⟨g1, o1, va, rfl, hg1, p1, q1, r1, hva⟩ := (H1.out.below hbel).at hlt
      obtain ⟨g2, o2, vb, rfl, hg2, p2, q2, r2, hvb⟩ := (H2.out.below hbel).at hlt
      have hsm : es[k].attrs.length ≤ 1048576 := by have := (HL.out.2 es[k] (List.getElem_mem hlt)).2.1; omega
      have HE : Hid (∀ w1 : World, Below wr.heap.size wr w1 → Calls Tryz.prog 51 #[.agg #[.string es[k].tag, .int .i64 es[k].parent, va], .agg #[.string es[k].tag, .int .i64 es[k].parent, vb]] w1 fun e w' => e = .returned (.bool true) ∧ Below w1.heap.size w1 w') := fun w1 h => eqElem B1 B2 es[k] va vb w1 hsm (hva.below h) (hvb.below h)
      obtain ⟨a3, c3, rfl⟩ := hva.slice
      obtain ⟨a4, c4, rfl⟩ := hvb.slice
      clear hva hvb
      have t1 : (k : Int) < (es.length : Int) := by omega
      go_wp2
      go_region_with ((go_at_call 51; refine (HE.out _ ?_).mono ?_; exact (Below.refl wr.heap.size wr).drew; rintro e w1 ⟨rfl, hb1⟩; have hbb : Below wr.heap.size wr w1 := ((Below.refl wr.heap.size wr).drew).trans hb1))
      all_goals go_wp2
      all_goals exact ⟨⟨k + 1, by simp, by omega, hbel.trans (hbb.mono hbel.size)⟩, by simp [intOf]; omega⟩
    · go_wp2
      go_ret
      exact ⟨rfl, hbel⟩
end Tr
end Go.Proofs.YtgghigfflpbjiaaGreatDoor
