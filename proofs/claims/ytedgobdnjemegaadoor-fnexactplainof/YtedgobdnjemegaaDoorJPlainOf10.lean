/- Laid together: PlM, ApA. -/
import Derived.Test.YtedgobdnjemegaaDoorJPlainOf15
import Derived.Test.YtedgobdnjemegaaDoorProg
import Derived.Deep.AppendLies
import Derived.Deep.Upon
import Derived.Laws.OwnMore
/- A process made plain, as plain functions: the tree of a step, made plain, and the list that it comes to. -/
namespace Go.Proofs.YtedgobdnjemegaaDoor
open Go.RowKit
set_option linter.unusedVariables false
namespace Pl
open Ex (hid inR)
open Nd (NodeD)
open St (StepD)
open Tr (Chain cutTo onPath top nf ElemD)
open Pf
/-- A step with what is below it. -/
structure PT where
  s : StepD
  kids : List PT
def gT (ss : List StepD) : Nat → Nat → PT
  | 0, k => ⟨PJ ss k, []⟩
  | f + 1, k => ⟨PJ ss k, (kidsL ss k).map (gT ss f)⟩
def pieceT (b : PT) : List PT := if b.s.kind = 1 then b.kids else [b]
def lineT (l : List PT) : List PT := l.flatMap pieceT
def TJ (l : List PT) (i : Nat) : PT := l[i]?.getD ⟨⟨0, 0, ByteArray.empty, 0, [], []⟩, []⟩
theorem TJ_eq {l : List PT} {i : Nat} (h : i < l.length) : TJ l i = l[i] := by unfold TJ; rw [List.getElem?_eq_getElem h]; rfl
def condT (c : List NodeD) (t : PT) : PT := if 0 < c.length then ⟨{ t.s with cond := c }, t.kids⟩ else t
def wholeT (s : StepD) (l : List PT) : PT := if l.length = 1 then condT s.cond (TJ l 0) else ⟨s, l⟩
def plB (ss : List StepD) : Nat → Nat → PT
  | 0, k => ⟨PJ ss k, []⟩
  | f + 1, k => if (PJ ss k).kind = 1 then wholeT (PJ ss k) (lineT ((kidsL ss k).map (plB ss f))) else ⟨PJ ss k, (kidsL ss k).map (plB ss f)⟩
def lst : Nat → List StepD → PT → Int → List StepD
  | 0, acc, _, _ => acc
  | f + 1, acc, t, par => t.kids.foldl (fun a b => lst f a b (acc.length : Int)) (acc ++ [{ t.s with parent := par }])
def cnt : Nat → PT → Nat
  | 0, _ => 0
  | f + 1, t => 1 + (t.kids.map (cnt f)).sum
theorem line_snoc (l : List PT) (b : PT) : lineT (l ++ [b]) = lineT l ++ pieceT b := by simp [lineT]
theorem lst_len : ∀ (f : Nat) (acc : List StepD) (t : PT) (par : Int), (lst f acc t par).length = acc.length + cnt f t
  | 0, acc, t, par => by simp [lst, cnt]
  | f + 1, acc, t, par => by
    have h : ∀ (ks : List PT) (a : List StepD), (ks.foldl (fun a b => lst f a b (acc.length : Int)) a).length = a.length + (ks.map (cnt f)).sum := by
      intro ks
      induction ks with
      | nil => intro a; simp
      | cons b ks ih => intro a; rw [List.foldl_cons, ih, lst_len f]; simp; omega
    rw [lst, h, cnt]
    simp
    omega
/-- How the list stands when some kids are told. -/
def lstK (f : Nat) (acc : List StepD) (t : PT) (par : Int) (m : Nat) : List StepD := (t.kids.take m).foldl (fun a b => lst f a b (acc.length : Int)) (acc ++ [{ t.s with parent := par }])
theorem lstK_zero (f : Nat) (acc : List StepD) (t : PT) (par : Int) : lstK f acc t par 0 = acc ++ [{ t.s with parent := par }] := by simp [lstK]
theorem lstK_succ (f : Nat) (acc : List StepD) (t : PT) (par : Int) {m : Nat} (h : m < t.kids.length) : lstK f acc t par (m + 1) = lst f (lstK f acc t par m) t.kids[m] (acc.length : Int) := by
  unfold lstK
  rw [List.take_succ_eq_append_getElem h, List.foldl_append]
  rfl
theorem lstK_all (f : Nat) (acc : List StepD) (t : PT) (par : Int) : lstK f acc t par t.kids.length = lst (f + 1) acc t par := by
  unfold lstK
  rw [List.take_length]
  rfl
theorem fold_le (f : Nat) (n : Int) : ∀ (ks : List PT) (a : List StepD), a.length ≤ (ks.foldl (fun a b => lst f a b n) a).length := by
  intro ks
  induction ks with
  | nil => intro a; simp
  | cons b ks ih => intro a; rw [List.foldl_cons]; have := ih (lst f a b n); rw [lst_len] at this; omega
theorem lstK_le (f : Nat) (acc : List StepD) (t : PT) (par : Int) (m : Nat) : (lstK f acc t par m).length ≤ (lst (f + 1) acc t par).length := by
  have e : lst (f + 1) acc t par = (t.kids.drop m).foldl (fun a b => lst f a b (acc.length : Int)) (lstK f acc t par m) := by
    unfold lstK
    rw [← List.foldl_append, List.take_append_drop]
    rfl
  rw [e]
  exact fold_le _ _ _ _
theorem lstK_lst_le (f : Nat) (acc : List StepD) (t : PT) (par : Int) {m : Nat} (h : m < t.kids.length) : (lst f (lstK f acc t par m) t.kids[m] (acc.length : Int)).length ≤ (lst (f + 1) acc t par).length := by
  rw [← lstK_succ f acc t par h]
  exact lstK_le _ _ _ _ _
theorem lstK_pos (f : Nat) (acc : List StepD) (t : PT) (par : Int) (m : Nat) : acc.length < (lstK f acc t par m).length := by
  have h := fold_le f (acc.length : Int) (t.kids.take m) (acc ++ [{ t.s with parent := par }])
  rw [List.length_append, List.length_singleton] at h
  unfold lstK
  omega
/-! ### how much of it there can be -/
def SB : Nat → Nat
  | 0 => 1
  | f + 1 => 1 + 24 * SB f
theorem SB8 : SB 8 ≤ 1000000000000 := by decide
theorem kids_le {ss : List StepD} (hl : ss.length ≤ 24) (k : Nat) : (kidsL ss k).length ≤ 24 := Nat.le_trans (Pf.kidsN_le ss ss.length k) hl
theorem sum_le {α : Type} (g : α → Nat) (b : Nat) : ∀ (l : List α), (∀ x ∈ l, g x ≤ b) → (l.map g).sum ≤ l.length * b
  | [], _ => by simp
  | x :: l, h => by
    have h1 := h x (by simp)
    have h2 := sum_le g b l (fun y hy => h y (by simp [hy]))
    simp only [List.map_cons, List.sum_cons, List.length_cons, Nat.succ_mul]
    omega
theorem mem_sum {α : Type} (g : α → Nat) : ∀ (l : List α) (x : α), x ∈ l → g x ≤ (l.map g).sum
  | [], x, h => by cases h
  | y :: l, x, h => by
    simp only [List.map_cons, List.sum_cons]
    rcases List.mem_cons.1 h with rfl | h
    · omega
    · have := mem_sum g l x h
      omega
theorem line_sum (F b : Nat) : ∀ (l : List PT), (∀ x ∈ l, ∀ F, cnt F x ≤ b) → ((lineT l).map (cnt F)).sum ≤ l.length * b
  | [], _ => by simp [lineT]
  | x :: l, h => by
    have h1 := h x (by simp)
    have h2 := line_sum F b l (fun y hy => h y (by simp [hy]))
    have e : lineT (x :: l) = pieceT x ++ lineT l := by simp [lineT]
    have h3 : ((pieceT x).map (cnt F)).sum ≤ b := by
      unfold pieceT
      by_cases hk : x.s.kind = 1
      · rw [if_pos hk]
        have := h1 (F + 1)
        rw [cnt] at this
        omega
      · rw [if_neg hk]
        simpa using h1 F
    rw [e, List.map_append, List.sum_append, List.length_cons, Nat.succ_mul]
    omega
theorem cnt_cond (F : Nat) (c : List NodeD) (t : PT) : cnt F (condT c t) = cnt F t := by
  unfold condT
  by_cases h : 0 < c.length
  · rw [if_pos h]
    cases F <;> rfl
  · rw [if_neg h]
theorem cnt_plB {ss : List StepD} (hl : ss.length ≤ 24) : ∀ (f k F : Nat), cnt F (plB ss f k) ≤ SB f
  | 0, k, F => by
    cases F
    · simp [cnt, SB]
    · simp [cnt, plB, SB]
  | f + 1, k, 0 => by simp [cnt]
  | f + 1, k, F + 1 => by
    have hk := kids_le hl k
    have hm : ∀ x ∈ (kidsL ss k).map (plB ss f), ∀ F, cnt F x ≤ SB f := by
      intro x hx F
      obtain ⟨j, _, rfl⟩ := List.mem_map.1 hx
      exact cnt_plB hl f j F
    have hb : ((kidsL ss k).map (plB ss f)).length * SB f ≤ 24 * SB f := Nat.mul_le_mul_right _ (by simpa using hk)
    rw [plB]
    by_cases h1 : (PJ ss k).kind = 1
    · rw [if_pos h1]
      have hs := fun F => line_sum F (SB f) _ hm
      unfold wholeT
      by_cases h2 : (lineT ((kidsL ss k).map (plB ss f))).length = 1
      · rw [if_pos h2, cnt_cond, TJ_eq (by omega), SB]
        have h3 := mem_sum (cnt (F + 1)) (lineT ((kidsL ss k).map (plB ss f))) _ (List.getElem_mem (show 0 < _ by omega))
        have := hs (F + 1)
        omega
      · rw [if_neg h2, cnt, SB]
        have := hs F
        simp only
        omega
    · rw [if_neg h1, cnt, SB]
      have := sum_le (cnt F) (SB f) _ (fun x hx => hm x hx F)
      simp only
      omega
/-! ### how deep -/
theorem chain_one {es : List Tr.ElemD} : ∀ {l m : List Nat}, Chain es l → Chain es m → top l = top m → l = m
  | [], [], _, _, _ => rfl
  | [], b :: m, _, _, h => by have : (-1 : Int) = (b : Int) := h; omega
  | a :: l, [], _, _, h => by have : (a : Int) = (-1 : Int) := h; omega
  | a :: l, b :: m, h1, h2, h => by
    have e : a = b := by have : (a : Int) = (b : Int) := h; omega
    subst e
    obtain ⟨⟨e1, x1, y1⟩, _, z1⟩ := h1
    obtain ⟨⟨e2, x2, y2⟩, _, z2⟩ := h2
    have : e1 = e2 := Option.some.inj (x1.symm.trans x2)
    subst this
    rw [chain_one z1 z2 (y1.symm.trans y2)]
theorem kid_mem {ss : List StepD} {k j : Nat} (h : j ∈ kidsL ss k) : j < ss.length ∧ (PJ ss j).parent = (k : Int) := by
  unfold kidsL Pf.kidsN at h
  have := List.mem_filter.1 h
  exact ⟨List.mem_range.1 this.1, by simpa using this.2⟩
def deepG (ss : List StepD) (k : Nat) : Nat := (path ss (k + 1)).length
theorem deep_le {ss : List StepD} {k : Nat} (h : pFault ss = 0) (hk : k < ss.length) : deepG ss k ≤ 7 := (walked (ss := ss) (i := k + 1) hk (first_to (of_p h).2.1 hk)).deep
theorem kid_deep {ss : List StepD} {k j : Nat} (h : pFault ss = 0) (hk : k < ss.length) (hj : j ∈ kidsL ss k) : deepG ss j = deepG ss k + 1 := by
  obtain ⟨hj1, hj2⟩ := kid_mem hj
  have w1 := (walked (ss := ss) (i := j + 1) hj1 (first_to (of_p h).2.1 hj1)).chain
  have w2 := (walked (ss := ss) (i := k + 1) hk (first_to (of_p h).2.1 hk)).chain
  have e : path ss (j + 1) = j :: cutTo (PJ ss j).parent (path ss j) := rfl
  rw [e] at w1
  obtain ⟨⟨e1, x1, y1⟩, _, z1⟩ := w1
  have hp : e1.parent = (k : Int) := by
    rw [← hj2]
    have : (es ss)[j]? = some ⟨ss[j].name, ss[j].parent, []⟩ := by simp [es, hj1]
    rw [x1] at this
    cases this
    rw [PJ_eq hj1]
  have h3 := chain_one z1 w2 (by rw [← y1, hp]; rfl)
  unfold deepG
  rw [e, h3]
  simp
end Pl
end Go.Proofs.YtedgobdnjemegaaDoor
/- A row is appended to a row that is owned, be it empty or nil: one law, at an operation, at a plain region's list, at a step of a region that draws its order. -/
namespace Go.Proofs.YtedgobdnjemegaaDoor
open Go.RowKit
set_option linter.unusedVariables false
namespace Ap
section
variable {P : Program}
/-- A row of m elements, as an argument: empty, nil, or its cells are there. -/
def Row (w : World) (size : Nat) (x : Value) (m : Nat) (news : List Value) : Prop :=
  ∃ a c, x = .slice a m c ∧ news.length = m * size ∧ (∀ u ∈ news, u.oneCell' = true) ∧ (m = 0 ∨ ∃ ad, a = some ad ∧ ∀ (j : Nat) u, news[j]? = some u → w.cell? (ad.add j) = some u)
theorem Row.kept {w w' : World} {size m : Nat} {x : Value} {news : List Value} (h : Row w size x m news) (hk : ∀ a u, w.cell? a = some u → w'.cell? a = some u) : Row w' size x m news := by
  obtain ⟨a, c, hx, hl, h1, h2⟩ := h
  refine ⟨a, c, hx, hl, h1, ?_⟩
  rcases h2 with h2 | ⟨ad, ha, hc⟩
  · exact .inl h2
  · exact .inr ⟨ad, ha, fun j u hu => hk _ _ (hc j u hu)⟩
theorem run_any (w : World) (t ty : TypeId) (base : Nat) (e : TypeId) (i : TypeInfo) (z : Value) (size bytes : Nat) (ht : P.underlying t = some (.slice e)) (hi : P.info? e = some i) (hz : i.zero = some z)
    (hsize : i.size = size) (hby : i.bytes = bytes) (hzs : z.cells.size = size) (hsz : 0 < size)
    (v : Value) (n : Nat) (xs : List Value) (hown : w.ownsRow base e size v n xs) (x : Value) (m : Nat) (news : List Value) (hr : Row w size x m news)
    (h63 : n + m ≤ maxLen) (hbytes : (n + m) * bytes ≤ 140737488355328) (hbase : base ≤ w.heap.size) (H : Nat) (hH : w.heap.size = H) :
    ∃ a' c' w', (Builtin.append_ #[t, t] ty #[v, x]).run P w = .ok (.slice a' (n + m) c') w' ∧ w'.ownsRow base e size (.slice a' (n + m) c') (n + m) (xs ++ news) ∧ w.grownBy w' v.ownBlock ∧ ((Value.slice a' (n + m) c').ownBlock = v.ownBlock ∨ (Value.slice a' (n + m) c').ownBlock = some H) := by
  obtain ⟨a, c, rfl, hl, h1, h2⟩ := hr
  by_cases hm : m = 0
  · subst hm
    obtain rfl : news = [] := List.eq_nil_of_length_eq_zero (by simpa using hl)
    have hs : Src P i.size t (.slice a 0 c) 0 [] w := by
      cases a with
      | none => exact Src.ofNil w ht c
      | some ad => exact Src.ofSlice w ht ad 0 c [] (by simp) (fun j u h => by simp at h) (fun u h => by simp at h)
    obtain ⟨bs, cp, rfl, hle⟩ : ∃ bs cp, v = .slice bs n cp ∧ n ≤ cp := by
      rcases hown.2 with ⟨rfl, rfl⟩ | ⟨g, cap, cur, rfl, _, _, hle, _⟩
      · exact ⟨none, 0, rfl, Nat.le_refl _⟩
      · exact ⟨_, _, rfl, hle⟩
    refine ⟨bs, cp, w, run_append_nothing (P := P) w t t ty e i ht hi bs n cp hle _ hs, ?_, ⟨rfl, rfl, rfl, Nat.le_refl _, fun _ _ _ => rfl⟩, .inl rfl⟩
    rw [List.append_nil]
    exact hown
  · rcases h2 with h2 | ⟨ad, rfl, hc⟩
    · exact absurd h2 hm
    · obtain ⟨g, cap, w', h3, h4, h5, h6, h7⟩ := run_append_lies (P := P) w t ty base e i z size bytes ht hi hz hsize hby hzs hsz v n xs hown ad m c news hl hc h1 (by omega) h63 hbytes hbase H hH
      refine ⟨some ⟨g, 0, none⟩, cap, w', h3, h4, h5, ?_⟩
      rcases h6 with h6 | h6
      · exact .inl h6.symm
      · right; show some g = _; rw [h6]
theorem wp_any (w : World) {o : Oper} {a : Act} {K : Act → World → Prop} {Q : Exit → Act → World → Prop} (s x : Operand) (t : TypeId)
    (ho : o.op = .call { callee := .builtin .append, args := #[s, x], argTypes := #[t, t] })
    (base : Nat) (e : TypeId) (i : TypeInfo) (z : Value) (size bytes : Nat) (ht : P.underlying t = some (.slice e)) (hi : P.info? e = some i) (hz : i.zero = some z)
    (hsize : i.size = size) (hby : i.bytes = bytes) (hzs : z.cells.size = size) (hsz : 0 < size)
    (v : Value) (n : Nat) (xs : List Value) (hs : a.eval s = v) (hown : w.ownsRow base e size v n xs) (xv : Value) (m : Nat) (news : List Value) (hx : a.eval x = xv) (hr : Row w size xv m news)
    (h63 : n + m ≤ maxLen) (hbytes : (n + m) * bytes ≤ 140737488355328) (hbase : base ≤ w.heap.size) (H : Nat) (hH : w.heap.size = H)
    (h : ∀ a' c' w', w'.ownsRow base e size (.slice a' (n + m) c') (n + m) (xs ++ news) → w.grownBy w' v.ownBlock → ((Value.slice a' (n + m) c').ownBlock = v.ownBlock ∨ (Value.slice a' (n + m) c').ownBlock = some H) → K (a.put o.dst (.slice a' (n + m) c')) w') : o.wp P a w K Q := by
  obtain ⟨a', c', w', hrn, h2, h3, h4⟩ := run_any (P := P) w t o.type base e i z size bytes ht hi hz hsize hby hzs hsz v n xs hown xv m news hr h63 hbytes hbase H hH
  unfold Oper.wp execOp
  simp only [ho, resolve, invoke, builtin, Sem.run_bind, Sem.run_pure, Result.andThen_ok, List.map_toArray, List.map_cons, List.map_nil, hs, hx, hrn]
  exact h a' c' w' h2 h3 h4
theorem wpList_any (w : World) {ops : Array Oper} {rest : List Oper} {o : Oper} {a : Act} {Q : Exit → Act → World → Prop} (hgd : o.guard = none) (s x : Operand) (t : TypeId)
    (ho : o.op = .call { callee := .builtin .append, args := #[s, x], argTypes := #[t, t] })
    (base : Nat) (e : TypeId) (i : TypeInfo) (z : Value) (size bytes : Nat) (ht : P.underlying t = some (.slice e)) (hi : P.info? e = some i) (hz : i.zero = some z)
    (hsize : i.size = size) (hby : i.bytes = bytes) (hzs : z.cells.size = size) (hsz : 0 < size)
    (v : Value) (n : Nat) (xs : List Value) (hs : a.eval s = v) (hown : w.ownsRow base e size v n xs) (xv : Value) (m : Nat) (news : List Value) (hx : a.eval x = xv) (hr : Row w size xv m news)
    (h63 : n + m ≤ maxLen) (hbytes : (n + m) * bytes ≤ 140737488355328) (hbase : base ≤ w.heap.size) (H : Nat) (hH : w.heap.size = H)
    (h : ∀ a' c' w', w'.ownsRow base e size (.slice a' (n + m) c') (n + m) (xs ++ news) → w.grownBy w' v.ownBlock → ((Value.slice a' (n + m) c').ownBlock = v.ownBlock ∨ (Value.slice a' (n + m) c').ownBlock = some H) → wpList P ops Q rest (a.put o.dst (.slice a' (n + m) c')) w') : wpList P ops Q (o :: rest) a w :=
  wpList_plain hgd fun _ hK => wp_any w s x t ho base e i z size bytes ht hi hz hsize hby hzs hsz v n xs hs hown xv m news hx hr h63 hbytes hbase H hH fun a' c' w' h2 h3 h4 => hK _ _ (h a' c' w' h2 h3 h4)
theorem step_any (w : World) {ops : Array Oper} {o : Oper} {a : Act} {K : Act → World → Prop} {Q : Exit → Act → World → Prop} {E : Prop} (hgd : o.guard = none) (s x : Operand) (t : TypeId)
    (ho : o.op = .call { callee := .builtin .append, args := #[s, x], argTypes := #[t, t] })
    (base : Nat) (e : TypeId) (i : TypeInfo) (z : Value) (size bytes : Nat) (ht : P.underlying t = some (.slice e)) (hi : P.info? e = some i) (hz : i.zero = some z)
    (hsize : i.size = size) (hby : i.bytes = bytes) (hzs : z.cells.size = size) (hsz : 0 < size)
    (v : Value) (n : Nat) (xs : List Value) (hs : a.eval s = v) (hown : w.ownsRow base e size v n xs) (xv : Value) (m : Nat) (news : List Value) (hx : a.eval x = xv) (hr : Row w size xv m news)
    (h63 : n + m ≤ maxLen) (hbytes : (n + m) * bytes ≤ 140737488355328) (hbase : base ≤ w.heap.size) (H : Nat) (hH : w.heap.size = H)
    (h : ∀ a' c' w', w'.ownsRow base e size (.slice a' (n + m) c') (n + m) (xs ++ news) → w.grownBy w' v.ownBlock → ((Value.slice a' (n + m) c').ownBlock = v.ownBlock ∨ (Value.slice a' (n + m) c').ownBlock = some H) → K (a.put o.dst (.slice a' (n + m) c')) w') :
    if Region.wanted o (yielded ops a.tmps) = true then Oper.wp P o a w K Q else E := by
  have hw : Region.wanted o (yielded ops a.tmps) = true := by simp [Region.wanted, hgd]
  rw [if_pos hw]
  exact wp_any w s x t ho base e i z size bytes ht hi hz hsize hby hzs hsz v n xs hs hown xv m news hx hr h63 hbytes hbase H hH h
end
end Ap
end Go.Proofs.YtedgobdnjemegaaDoor
