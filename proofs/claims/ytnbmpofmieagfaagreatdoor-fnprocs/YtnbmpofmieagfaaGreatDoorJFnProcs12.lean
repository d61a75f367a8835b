/- Laid together: DqC, Nst. -/
import Derived.Test.YtnbmpofmieagfaaGreatDoorJFnProcs42
import Derived.Test.YtnbmpofmieagfaaGreatDoorProg
import Derived.WalkKit
import Derived.Below
import Derived.Laws.AppendOwn
import Derived.Laws.OwnMore
/- What the specification draws of expressions: l3Draw, l3Bent, DrawExprText. -/
namespace Go.Proofs.YtnbmpofmieagfaaGreatDoor
open Go.RowKit
set_option linter.unusedVariables false
namespace DqE
open Ex
open Nd (NodeD)
theorem three {w : World} : ∀ (i : Nat) (z : Int), ([1, 1, 2] : List Int)[i]? = some z → (w.alloc (.cells #[.int .i64 1, .int .i64 1, .int .i64 2] 2)).cell? ⟨w.heap.size, i, none⟩ = some (.int .i64 z)
  | 0, z, h => by cases h; go_simp
  | 1, z, h => by cases h; go_simp
  | 2, z, h => by cases h; go_simp
  | i + 3, z, h => by simp at h
theorem mk_more {B S Q len cap : Nat} {a : Option Addr} {t d : Int} {sz sz' K K' : Nat} (h : MK B S Q len cap a t d sz K) (hs : sz ≤ sz') (hk : K ≤ K') : MK B S Q len cap a t d sz' K' := by
  intro ns v pos w h1 h2 hq h3 h4 h5
  refine (h ns v pos w h1 h2 hq h3 (by omega) (by omega)).mono ?_
  rintro e w1 ⟨tm, u, p, g1, g2, g3, g4, g5, g6, g7⟩
  exact ⟨tm, u, p, g1, by omega, g3, g4, g5, by omega, g7⟩
theorem mk_all (B S Q len cap : Nat) (a : Option Addr) (hBS : B ≤ S) (hSQ : S < Q) (hln : len ≤ 2000000) (t d : Int) (ht : t = 1 ∨ t = 2) (hd : d = 1 ∨ d = 2) : MK B S Q len cap a t d 7 100 := by
  have m0 := make0 B S Q len cap a hBS hSQ hln
  have i1 : MK B S Q len cap a 1 1 3 18 := makeInt B S Q len cap a hBS hSQ hln 1 1 4 (by omega) (by omega) (by omega) m0
  have b1 : MK B S Q len cap a 2 1 3 18 := makeBool B S Q len cap a hBS hSQ hln 1 1 4 (by omega) (by omega) (by omega) m0 (fun h => absurd h (by omega))
  have i2 : MK B S Q len cap a 1 2 7 46 := makeInt B S Q len cap a hBS hSQ hln 2 3 18 (by omega) (by omega) (by omega) i1
  have b2 : MK B S Q len cap a 2 2 7 46 := makeBool B S Q len cap a hBS hSQ hln 2 3 18 (by omega) (by omega) (by omega) i1 (fun _ => b1)
  rcases ht with rfl | rfl <;> rcases hd with rfl | rfl
  · exact mk_more i1 (by omega) (by omega)
  · exact mk_more i2 (by omega) (by omega)
  · exact mk_more b1 (by omega) (by omega)
  · exact mk_more b2 (by omega) (by omega)
set_option maxRecDepth 100000 in
set_option maxHeartbeats 4000000 in
theorem draw (B S Q len cap pos : Nat) (a : Option Addr) (t : Int) (w : World) (hBS : B ≤ S) (hSQ : S < Q) (hQ : Q ≤ w.heap.size) (hln : len ≤ 2000000) (ht : t = 1 ∨ t = 2) (hs : Drw.Src w S a len cap pos) (hc : Drw.CodeAt B w a len) (hp : pos ≤ 900000) :
    Calls Tryz.prog 63 #[.pointer (some ⟨S, 0, none⟩), .int .i64 t] w fun e w' => ∃ (tm : Tm) (u : Value) (pos' : Nat), tm.ok ∧ tm.size ≤ 7 ∧ e = .returned u ∧ w'.ownsRow Q 110 4 u tm.size (nvals (tm.nodes 0)) ∧ Drw.Src w' S a len cap pos' ∧ pos' ≤ pos + 101 ∧ Bx S Q w w' := by
  have HM := hid (fun d (hd : d = 1 ∨ d = 2) => mk_all B S Q len cap a hBS hSQ hln t d ht hd)
  have HS := hid hs
  have HC := hid hc
  have hl := hs.lt
  have HSa := hid (src_alloc hs (.cells #[.int .i64 1, .int .i64 1, .int .i64 2] 2))
  have HBa : Hid (Bx S Q w (w.alloc (.cells #[.int .i64 1, .int .i64 1, .int .i64 2] 2))) := hid ((Bx.refl S hQ).alloc _)
  have HCa := hid (code_bx hc HBa.out hBS hSQ)
  clear hs hc ht
  go_enter Tryz.func63, Tryz.ntmps63
  go_wp2_with fail
  refine (Drw.pick B S len cap pos w.heap.size 3 [1, 1, 2] a _ HSa.out HCa.out hBS hln (by omega) rfl (by omega) (by omega) (by omega) (by simp) three).mono ?_
  rintro e w1 ⟨d, hd, rfl, hs1, hg1⟩
  have hd2 : d = 1 ∨ d = 2 := by simp at hd; omega
  have HB1 := hid (HBa.out.src hg1)
  have HC1 := hid (code_src HCa.out hg1 hBS)
  have HS1 := hid hs1
  have HM1 := hid (HM.out d hd2)
  clear hs1 hg1 hd HSa HBa HCa hd2 HM
  go_wp2_with fail
  refine (HM1.out [] _ (pos + 1) _ HS1.out HC1.out HB1.out.top (World.ownsRow_nil _ _ _ 4) (by simp) (by omega)).mono ?_
  rintro e w2 ⟨tm, u, pos', hok, hsz, rfl, ho, hs2, hp2, hb2⟩
  simp only [List.length_nil, Nat.zero_add, List.nil_append] at ho
  obtain ⟨au, cu, rfl⟩ := own4_slice ho
  have HOK := hid hok
  have HO := hid ho
  have HS2 := hid hs2
  have HB2 := hid (HB1.out.trans hb2)
  have q : ¬ (16 : Int) < (tm.size : Int) := by omega
  clear hok ho hs2 hb2 HS1 HC1 HB1 HM1 HS HC
  go_wp2
  go_loopw [5] (fun x wr => x = .slice au tm.size cu ∧ wr = w2) (fun _ _ => 0)
  case atStart => exact ⟨rfl, rfl⟩
  case round =>
    obtain ⟨rfl, rfl⟩ := hrel
    go_wp2
    go_ret
    exact ⟨tm, _, pos', HOK.out, hsz, rfl, HO.out, HS2.out, by omega, HB2.out⟩
end DqE
end Go.Proofs.YtnbmpofmieagfaaGreatDoor
/- Rows of records that hold rows of their own, as a function makes them itself: each row lies in a block of its own. -/
namespace Go.Proofs.YtnbmpofmieagfaaGreatDoor
open Go.RowKit
set_option linter.unusedVariables false
namespace Nst
def own (v : Value) (b : Nat) : Prop := v.ownBlock = some b
def flat (f : Nat → List Value) (n : Nat) : List Value := (List.range n).flatMap f
theorem flat_succ (f : Nat → List Value) (n : Nat) : flat f (n + 1) = flat f n ++ f n := by simp [flat, List.range_succ]
theorem flat_len {f : Nat → List Value} {z : Nat} : ∀ n, (∀ j, j < n → (f j).length = z) → (flat f n).length = n * z
  | 0, _ => by simp [flat]
  | n + 1, h => by rw [flat_succ, List.length_append, flat_len n (fun j hj => h j (by omega)), h n (by omega), Nat.succ_mul]
theorem mul_lt {j n c z : Nat} (hj : j < n) (hc : c < z) : j * z + c < n * z := by
  have h1 : (j + 1) * z ≤ n * z := Nat.mul_le_mul_right z hj
  rw [Nat.succ_mul] at h1
  omega
theorem flat_get {f : Nat → List Value} {z : Nat} : ∀ {n j c : Nat}, (∀ j, j < n → (f j).length = z) → j < n → c < z → (flat f n)[j * z + c]? = (f j)[c]?
  | 0, j, c, h, hj, _ => by omega
  | n + 1, j, c, h, hj, hc => by
    rw [flat_succ]
    have hl := flat_len (f := f) n (fun j hj => h j (by omega))
    by_cases e : j = n
    · subst e
      rw [List.getElem?_append_right (by rw [hl]; omega), hl, Nat.add_sub_cancel_left]
    · have := mul_lt (j := j) (n := n) (by omega) hc
      rw [List.getElem?_append_left (by rw [hl]; exact this)]
      exact flat_get (fun j hj => h j (by omega)) (by omega) hc
theorem flat_congr {f g : Nat → List Value} : ∀ {n : Nat}, (∀ j, j < n → f j = g j) → flat f n = flat g n
  | 0, _ => rfl
  | n + 1, h => by rw [flat_succ, flat_succ, h n (by omega), flat_congr (fun j hj => h j (by omega))]
theorem flat_set {f : Nat → List Value} {z : Nat} : ∀ {n j c : Nat}, (∀ j, j < n → (f j).length = z) → j < n → c < z → ∀ (u : Value), (flat f n).set (j * z + c) u = flat (fun i => if i = j then (f j).set c u else f i) n
  | 0, j, c, h, hj, hc, u => by omega
  | n + 1, j, c, h, hj, hc, u => by
    rw [flat_succ, flat_succ]
    have hl := flat_len (f := f) n (fun j hj => h j (by omega))
    by_cases e : j = n
    · subst e
      rw [List.set_append_right _ _ (by rw [hl]; omega), hl, Nat.add_sub_cancel_left, if_pos rfl]
      congr 1
      exact flat_congr (fun i hi => by rw [if_neg (by omega)])
    · have := mul_lt (j := j) (n := n) (by omega) hc
      rw [List.set_append_left _ _ (by rw [hl]; exact this), flat_set (fun j hj => h j (by omega)) (by omega) hc, if_neg (fun e2 => e e2.symm)]
theorem own_lt {w : World} {B : Nat} {e : TypeId} {size n b : Nat} {v : Value} {xs : List Value} (h : w.ownsRow B e size v n xs) (hb : own v b) : B ≤ b ∧ b < w.heap.size := h.lt b hb
theorem own_kept {w w' : World} {B : Nat} {e : TypeId} {size n : Nat} {v : Value} {xs : List Value} (h : w.ownsRow B e size v n xs) (hb : ∀ b, own v b → w'.heap[b]? = w.heap[b]?) : w'.ownsRow B e size v n xs := by
  refine ⟨h.1, ?_⟩
  rcases h.2 with hn | ⟨g, cap, cur, rfl, hbg, hg, rest⟩
  · exact .inl hn
  · exact .inr ⟨g, cap, cur, rfl, hbg, by rw [hb g rfl]; exact hg, rest⟩
theorem own_mono {w : World} {B B' : Nat} {e : TypeId} {size n : Nat} {v : Value} {xs : List Value} (h : w.ownsRow B e size v n xs) (hb : B' ≤ B) : w.ownsRow B' e size v n xs := by
  refine ⟨h.1, ?_⟩
  rcases h.2 with hn | ⟨g, cap, cur, rfl, hbg, rest⟩
  · exact .inl hn
  · exact .inr ⟨g, cap, cur, rfl, Nat.le_trans hb hbg, rest⟩
theorem own_slice {w : World} {B : Nat} {e : TypeId} {size n : Nat} {v : Value} {xs : List Value} (h : w.ownsRow B e size v n xs) : ∃ a cap, v = .slice a n cap := by
  rcases h.2 with ⟨rfl, rfl⟩ | ⟨g, cap, cur, rfl, _⟩
  · exact ⟨_, _, rfl⟩
  · exact ⟨_, _, rfl⟩
theorem own_some {w : World} {B : Nat} {e : TypeId} {size n : Nat} {v : Value} {xs : List Value} (h : w.ownsRow B e size v n xs) (h0 : 0 < n) : ∃ g cap, v = .slice (some ⟨g, 0, none⟩) n cap ∧ B ≤ g ∧ g < w.heap.size ∧ n ≤ cap ∧ cap ≤ maxLen := by
  rcases h.2 with ⟨rfl, rfl⟩ | ⟨g, cap, cur, rfl, hb, hh, h1, h2, _⟩
  · omega
  · exact ⟨g, cap, rfl, hb, (Array.getElem?_eq_some_iff.1 hh).1, h1, h2⟩
/-- A row inside a record. -/
structure Sub where
  ty : TypeId
  sz : Nat
  v : Value
  n : Nat
  xs : List Value
def Sub.At (w : World) (B : Nat) (s : Sub) : Prop := w.ownsRow B s.ty s.sz s.v s.n s.xs
/-- n records of z cells each (record j is c j), and m rows inside them. -/
structure At (w : World) (B : Nat) (e : TypeId) (z : Nat) (v : Value) (n : Nat) (c : Nat → List Value) (m : Nat) (s : Nat → Sub) : Prop where
  row : w.ownsRow B e z v n (flat c n)
  sub : ∀ i, i < m → (s i).At w B
  sep : ∀ i j, i < m → j < m → i ≠ j → ∀ b, own (s i).v b → ¬ own (s j).v b
  sepv : ∀ i, i < m → ∀ b, own (s i).v b → ¬ own v b
section
variable {w w' : World} {B : Nat} {e : TypeId} {z : Nat} {v : Value} {n : Nat} {c : Nat → List Value} {m : Nat} {s : Nat → Sub}
theorem At.kept (h : At w B e z v n c m s) (hv : ∀ b, own v b → w'.heap[b]? = w.heap[b]?) (hs : ∀ i, i < m → ∀ b, own (s i).v b → w'.heap[b]? = w.heap[b]?) : At w' B e z v n c m s :=
  ⟨own_kept h.row hv, fun i hi => own_kept (h.sub i hi) (hs i hi), h.sep, h.sepv⟩
theorem At.keep (h : At w B e z v n c m s) (hb : ∀ b, B ≤ b → b < w.heap.size → w'.heap[b]? = w.heap[b]?) : At w' B e z v n c m s :=
  h.kept (fun b hv => hb b (own_lt h.row hv).1 (own_lt h.row hv).2) (fun i hi b hs => hb b (own_lt (h.sub i hi) hs).1 (own_lt (h.sub i hi) hs).2)
theorem At.below (h : At w B e z v n c m s) (hb : Below w.heap.size w w') : At w' B e z v n c m s := h.keep (fun b _ hl => hb.block b hl)
theorem At.mono {B' : Nat} (h : At w B e z v n c m s) (hb : B' ≤ B) : At w B' e z v n c m s := ⟨own_mono h.row hb, fun i hi => own_mono (h.sub i hi) hb, h.sep, h.sepv⟩
theorem At.nil (w : World) (B : Nat) (e : TypeId) (z : Nat) (c : Nat → List Value) (s : Nat → Sub) : At w B e z (.slice none 0 0) 0 c 0 s :=
  ⟨World.ownsRow_nil w B e z, fun i h => by omega, fun i j h => by omega, fun i h => by omega⟩
theorem At.congr {c' : Nat → List Value} {s' : Nat → Sub} (h : At w B e z v n c m s) (hc : ∀ j, j < n → c' j = c j) (hs : ∀ i, i < m → s' i = s i) : At w B e z v n c' m s' :=
  ⟨by rw [flat_congr hc]; exact h.row, fun i hi => by rw [hs i hi]; exact h.sub i hi, fun i j hi hj hij b => by rw [hs i hi, hs j hj]; exact h.sep i j hi hj hij b, fun i hi b => by rw [hs i hi]; exact h.sepv i hi b⟩
/-- The cells of a record. -/
theorem At.cell {g cap : Nat} (h : At w B e z (.slice (some ⟨g, 0, none⟩) n cap) n c m s) (hc : ∀ j, j < n → (c j).length = z) {j i : Nat} (hj : j < n) (hi : i < z) : w.cell? ⟨g, j * z + i, none⟩ = (c j)[i]? := by
  rw [h.row.cellAt (j * z + i) (mul_lt hj hi)]
  exact flat_get hc hj hi
theorem At.free {g cap : Nat} (h : At w B e z (.slice (some ⟨g, 0, none⟩) n cap) n c m s) (i : Nat) : w.frozen? ⟨g, i, none⟩ = false := h.row.frozenAt i
/-- A cell of a record is set. -/
theorem At.setRow {g cap : Nat} (h : At w B e z (.slice (some ⟨g, 0, none⟩) n cap) n c m s) (hc : ∀ j, j < n → (c j).length = z) {j i : Nat} (hj : j < n) (hi : i < z) (u : Value) :
    At (w.setCell ⟨g, j * z + i, none⟩ u) B e z (.slice (some ⟨g, 0, none⟩) n cap) n (fun x => if x = j then (c j).set i u else c x) m s := by
  have hst := h.row.stored (j * z + i) u
  rw [flat_set hc hj hi] at hst
  refine ⟨hst.1, fun q hq => ?_, h.sep, h.sepv⟩
  refine World.ownsRow.kept (h.sub q hq) hst.2 ?_
  cases hb : (s q).v.ownBlock with
  | none => exact .inl rfl
  | some b => exact .inr (fun e2 => h.sepv q hq b hb e2.symm)
/-- A row inside a record has turned, and nothing else. -/
theorem At.setSub (h : At w B e z v n c m s) {q : Nat} (hq : q < m) {xs : List Value} (hx : w'.ownsRow B (s q).ty (s q).sz (s q).v (s q).n xs) (hg : w.grownBy w' (s q).v.ownBlock) :
    At w' B e z v n c m (fun i => if i = q then { s q with xs := xs } else s i) := by
  refine ⟨h.row.kept hg ?_, fun i hi => ?_, fun i j hi hj hij b => ?_, fun i hi b => ?_⟩
  · cases hb : v.ownBlock with
    | none => exact .inl rfl
    | some b => exact .inr (fun e2 => h.sepv q hq b e2.symm hb)
  · by_cases ei : i = q
    · subst ei
      simp only [if_true]
      exact hx
    · simp only [ei, if_false]
      refine World.ownsRow.kept (h.sub i hi) hg ?_
      cases hb : (s i).v.ownBlock with
      | none => exact .inl rfl
      | some b => exact .inr (fun e2 => h.sep i q hi hq ei b hb e2.symm)
  · have e1 : (if i = q then { s q with xs := xs } else s i).v = (s i).v := by split <;> simp_all
    have e2 : (if j = q then { s q with xs := xs } else s j).v = (s j).v := by split <;> simp_all
    rw [e1, e2]
    exact h.sep i j hi hj hij b
  · have e1 : (if i = q then { s q with xs := xs } else s i).v = (s i).v := by split <;> simp_all
    rw [e1]
    exact h.sepv i hi b
/-- A record behind all others, with p rows of its own. -/
theorem At.push {w2 : World} {v' : Value} {cs : List Value} {p : Nat} {t : Nat → Sub} (h : At w B e z v n c m s) (ht : ∀ i, i < p → (t i).At w B) (htt : ∀ i j, i < p → j < p → i ≠ j → ∀ b, own (t i).v b → ¬ own (t j).v b)
    (hts : ∀ i j, i < m → j < p → ∀ b, own (s i).v b → ¬ own (t j).v b) (htv : ∀ i, i < p → ∀ b, own (t i).v b → ¬ own v b)
    (hown : w2.ownsRow B e z v' (n + 1) (flat c n ++ cs)) (hg : w.grownBy w2 v.ownBlock) (hat : v'.ownBlock = v.ownBlock ∨ v'.ownBlock = some w.heap.size) :
    At w2 B e z v' (n + 1) (fun j => if j = n then cs else c j) (m + p) (fun i => if i < m then s i else t (i - m)) := by
  have hv' : ∀ b, own v' b → own v b ∨ b = w.heap.size := fun b hb => by
    rcases hat with e | e
    · exact .inl (by unfold own; rw [← e]; exact hb)
    · right; unfold own at hb; rw [e] at hb; exact (Option.some.inj hb).symm
  have keep : ∀ {u : Sub}, u.At w B → (∀ b, own u.v b → ¬ own v b) → u.At w2 B := fun {u} hu hne => by
    refine World.ownsRow.kept hu hg ?_
    cases hb : u.v.ownBlock with
    | none => exact .inl rfl
    | some b => exact .inr (fun e2 => hne b hb e2.symm)
  have old : ∀ {u : Sub}, u.At w B → (∀ b, own u.v b → ¬ own v b) → ∀ b, own u.v b → ¬ own v' b := fun {u} hu hne b hb hv => by
    rcases hv' b hv with h3 | h3
    · exact hne b hb h3
    · have := (own_lt hu hb).2
      omega
  refine ⟨?_, fun i hi => ?_, fun i j hi hj hij b => ?_, fun i hi b => ?_⟩
  · rw [flat_succ, if_pos rfl, flat_congr (g := c) (fun j hj => by rw [if_neg (by omega)])]
    exact hown
  · by_cases e1 : i < m
    · simp only [e1, if_true]
      exact keep (h.sub i e1) (h.sepv i e1)
    · simp only [e1, if_false]
      exact keep (ht _ (by omega)) (htv _ (by omega))
  · by_cases e1 : i < m
    · by_cases e2 : j < m
      · simp only [e1, e2, if_true]
        exact h.sep i j e1 e2 hij b
      · simp only [e1, e2, if_true, if_false]
        exact hts i (j - m) e1 (by omega) b
    · by_cases e2 : j < m
      · simp only [e1, e2, if_true, if_false]
        exact fun a1 a2 => hts j (i - m) e2 (by omega) b a2 a1
      · simp only [e1, e2, if_false]
        exact htt (i - m) (j - m) (by omega) (by omega) (by omega) b
  · by_cases e1 : i < m
    · simp only [e1, if_true]
      exact old (h.sub i e1) (h.sepv i e1) b
    · simp only [e1, if_false]
      exact old (ht _ (by omega)) (htv _ (by omega)) b
end
end Nst
end Go.Proofs.YtnbmpofmieagfaaGreatDoor
