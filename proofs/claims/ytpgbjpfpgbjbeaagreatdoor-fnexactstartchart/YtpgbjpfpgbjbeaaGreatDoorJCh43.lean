/- Laid together: ApA, CrM, KwA. -/
import Derived.Test.YtpgbjpfpgbjbeaaGreatDoorProg
import Derived.Deep.AppendLies
import Derived.Deep.Upon
import Derived.Laws.OwnMore
import Derived.Test.YtpgbjpfpgbjbeaaGreatDoorJCh15
import Derived.Test.YtpgbjpfpgbjbeaaGreatDoorJCh24
import Derived.Test.YtpgbjpfpgbjbeaaGreatDoorJCh33
/- A row is appended to a row that is owned, be it empty or nil: one law, at an operation, at a plain region's list, at a step of a region that draws its order. -/
namespace Go.Proofs.YtpgbjpfpgbjbeaaGreatDoor
open Go.RowKit
set_option linter.unusedVariables false
namespace Ap
section
variable {P : Program}
/-- A row of m elements, as an argument: empty, nil, or its cells are there. -/
def Row (w : World) (size : Nat) (x : Value) (m : Nat) (news : List Value) : Prop :=
  ∃ a c, x = .slice a m c ∧ news.length = m * size ∧ (∀ u ∈ news, u.oneCell' = true) ∧ (m = 0 ∨ ∃ ad, a = some ad ∧ ∀ (j : Nat) u, news[j]? = some u → w.cell? (ad.add j) = some u)
theorem Row.kept {w w' : World} {size m : Nat} {x : Value} {news : List Value} (h : Row w size x m news) (hk : ∀ a u, w.cell? a = some u → w'.cell? a = some u) : Row w' size x m news := by
  obtain ⟨a, c, hx, hl, h1, h2⟩ := h
  refine ⟨a, c, hx, hl, h1, ?_⟩
  rcases h2 with h2 | ⟨ad, ha, hc⟩
  · exact .inl h2
  · exact .inr ⟨ad, ha, fun j u hu => hk _ _ (hc j u hu)⟩
theorem run_any (w : World) (t ty : TypeId) (base : Nat) (e : TypeId) (i : TypeInfo) (z : Value) (size bytes : Nat) (ht : P.underlying t = some (.slice e)) (hi : P.info? e = some i) (hz : i.zero = some z)
    (hsize : i.size = size) (hby : i.bytes = bytes) (hzs : z.cells.size = size) (hsz : 0 < size)
    (v : Value) (n : Nat) (xs : List Value) (hown : w.ownsRow base e size v n xs) (x : Value) (m : Nat) (news : List Value) (hr : Row w size x m news)
    (h63 : n + m ≤ maxLen) (hbytes : (n + m) * bytes ≤ 140737488355328) (hbase : base ≤ w.heap.size) (H : Nat) (hH : w.heap.size = H) :
    ∃ a' c' w', (Builtin.append_ #[t, t] ty #[v, x]).run P w = .ok (.slice a' (n + m) c') w' ∧ w'.ownsRow base e size (.slice a' (n + m) c') (n + m) (xs ++ news) ∧ w.grownBy w' v.ownBlock ∧ ((Value.slice a' (n + m) c').ownBlock = v.ownBlock ∨ (Value.slice a' (n + m) c').ownBlock = some H) := by
  obtain ⟨a, c, rfl, hl, h1, h2⟩ := hr
  by_cases hm : m = 0
  · subst hm
    obtain rfl : news = [] := List.eq_nil_of_length_eq_zero (by simpa using hl)
    have hs : Src P i.size t (.slice a 0 c) 0 [] w := by
      cases a with
      | none => exact Src.ofNil w ht c
      | some ad => exact Src.ofSlice w ht ad 0 c [] (by simp) (fun j u h => by simp at h) (fun u h => by simp at h)
    obtain ⟨bs, cp, rfl, hle⟩ : ∃ bs cp, v = .slice bs n cp ∧ n ≤ cp := by
      rcases hown.2 with ⟨rfl, rfl⟩ | ⟨g, cap, cur, rfl, _, _, hle, _⟩
      · exact ⟨none, 0, rfl, Nat.le_refl _⟩
      · exact ⟨_, _, rfl, hle⟩
    refine ⟨bs, cp, w, run_append_nothing (P := P) w t t ty e i ht hi bs n cp hle _ hs, ?_, ⟨rfl, rfl, rfl, Nat.le_refl _, fun _ _ _ => rfl⟩, .inl rfl⟩
    rw [List.append_nil]
    exact hown
  · rcases h2 with h2 | ⟨ad, rfl, hc⟩
    · exact absurd h2 hm
    · obtain ⟨g, cap, w', h3, h4, h5, h6, h7⟩ := run_append_lies (P := P) w t ty base e i z size bytes ht hi hz hsize hby hzs hsz v n xs hown ad m c news hl hc h1 (by omega) h63 hbytes hbase H hH
      refine ⟨some ⟨g, 0, none⟩, cap, w', h3, h4, h5, ?_⟩
      rcases h6 with h6 | h6
      · exact .inl h6.symm
      · right; show some g = _; rw [h6]
theorem wp_any (w : World) {o : Oper} {a : Act} {K : Act → World → Prop} {Q : Exit → Act → World → Prop} (s x : Operand) (t : TypeId)
    (ho : o.op = .call { callee := .builtin .append, args := #[s, x], argTypes := #[t, t] })
    (base : Nat) (e : TypeId) (i : TypeInfo) (z : Value) (size bytes : Nat) (ht : P.underlying t = some (.slice e)) (hi : P.info? e = some i) (hz : i.zero = some z)
    (hsize : i.size = size) (hby : i.bytes = bytes) (hzs : z.cells.size = size) (hsz : 0 < size)
    (v : Value) (n : Nat) (xs : List Value) (hs : a.eval s = v) (hown : w.ownsRow base e size v n xs) (xv : Value) (m : Nat) (news : List Value) (hx : a.eval x = xv) (hr : Row w size xv m news)
    (h63 : n + m ≤ maxLen) (hbytes : (n + m) * bytes ≤ 140737488355328) (hbase : base ≤ w.heap.size) (H : Nat) (hH : w.heap.size = H)
    (h : ∀ a' c' w', w'.ownsRow base e size (.slice a' (n + m) c') (n + m) (xs ++ news) → w.grownBy w' v.ownBlock → ((Value.slice a' (n + m) c').ownBlock = v.ownBlock ∨ (Value.slice a' (n + m) c').ownBlock = some H) → K (a.put o.dst (.slice a' (n + m) c')) w') : o.wp P a w K Q := by
  obtain ⟨a', c', w', hrn, h2, h3, h4⟩ := run_any (P := P) w t o.type base e i z size bytes ht hi hz hsize hby hzs hsz v n xs hown xv m news hr h63 hbytes hbase H hH
  unfold Oper.wp execOp
  simp only [ho, resolve, invoke, builtin, Sem.run_bind, Sem.run_pure, Result.andThen_ok, List.map_toArray, List.map_cons, List.map_nil, hs, hx, hrn]
  exact h a' c' w' h2 h3 h4
theorem wpList_any (w : World) {ops : Array Oper} {rest : List Oper} {o : Oper} {a : Act} {Q : Exit → Act → World → Prop} (hgd : o.guard = none) (s x : Operand) (t : TypeId)
    (ho : o.op = .call { callee := .builtin .append, args := #[s, x], argTypes := #[t, t] })
    (base : Nat) (e : TypeId) (i : TypeInfo) (z : Value) (size bytes : Nat) (ht : P.underlying t = some (.slice e)) (hi : P.info? e = some i) (hz : i.zero = some z)
    (hsize : i.size = size) (hby : i.bytes = bytes) (hzs : z.cells.size = size) (hsz : 0 < size)
    (v : Value) (n : Nat) (xs : List Value) (hs : a.eval s = v) (hown : w.ownsRow base e size v n xs) (xv : Value) (m : Nat) (news : List Value) (hx : a.eval x = xv) (hr : Row w size xv m news)
    (h63 : n + m ≤ maxLen) (hbytes : (n + m) * bytes ≤ 140737488355328) (hbase : base ≤ w.heap.size) (H : Nat) (hH : w.heap.size = H)
    (h : ∀ a' c' w', w'.ownsRow base e size (.slice a' (n + m) c') (n + m) (xs ++ news) → w.grownBy w' v.ownBlock → ((Value.slice a' (n + m) c').ownBlock = v.ownBlock ∨ (Value.slice a' (n + m) c').ownBlock = some H) → wpList P ops Q rest (a.put o.dst (.slice a' (n + m) c')) w') : wpList P ops Q (o :: rest) a w :=
  wpList_plain hgd fun _ hK => wp_any w s x t ho base e i z size bytes ht hi hz hsize hby hzs hsz v n xs hs hown xv m news hx hr h63 hbytes hbase H hH fun a' c' w' h2 h3 h4 => hK _ _ (h a' c' w' h2 h3 h4)
theorem step_any (w : World) {ops : Array Oper} {o : Oper} {a : Act} {K : Act → World → Prop} {Q : Exit → Act → World → Prop} {E : Prop} (hgd : o.guard = none) (s x : Operand) (t : TypeId)
    (ho : o.op = .call { callee := .builtin .append, args := #[s, x], argTypes := #[t, t] })
    (base : Nat) (e : TypeId) (i : TypeInfo) (z : Value) (size bytes : Nat) (ht : P.underlying t = some (.slice e)) (hi : P.info? e = some i) (hz : i.zero = some z)
    (hsize : i.size = size) (hby : i.bytes = bytes) (hzs : z.cells.size = size) (hsz : 0 < size)
    (v : Value) (n : Nat) (xs : List Value) (hs : a.eval s = v) (hown : w.ownsRow base e size v n xs) (xv : Value) (m : Nat) (news : List Value) (hx : a.eval x = xv) (hr : Row w size xv m news)
    (h63 : n + m ≤ maxLen) (hbytes : (n + m) * bytes ≤ 140737488355328) (hbase : base ≤ w.heap.size) (H : Nat) (hH : w.heap.size = H)
    (h : ∀ a' c' w', w'.ownsRow base e size (.slice a' (n + m) c') (n + m) (xs ++ news) → w.grownBy w' v.ownBlock → ((Value.slice a' (n + m) c').ownBlock = v.ownBlock ∨ (Value.slice a' (n + m) c').ownBlock = some H) → K (a.put o.dst (.slice a' (n + m) c')) w') :
    if Region.wanted o (yielded ops a.tmps) = true then Oper.wp P o a w K Q else E := by
  have hw : Region.wanted o (yielded ops a.tmps) = true := by simp [Region.wanted, hgd]
  rw [if_pos hw]
  exact wp_any w s x t ho base e i z size bytes ht hi hz hsize hby hzs hsz v n xs hs hown xv m news hx hr h63 hbytes hbase H hH h
end
end Ap
end Go.Proofs.YtpgbjpfpgbjbeaaGreatDoor
/- The answer of chapter 9: a code and a chart that owns its three rows; the law's comparison, marks and holds of it. -/
namespace Go.Proofs.YtpgbjpfpgbjbeaaGreatDoor
open Go.RowKit Go.Deep
set_option linter.unusedVariables false
namespace Cr
open Ch (RunD hid blk_cell blk_lt new_blk new_at)
open Ints (vals owns_cell owns_some owns_slice owns_below grown_refl grown_after grown_set)
def marksF (k : Int) (n : Nat) : List Int := (List.range n).map fun (i : Nat) => k + (i : Int)
theorem marksF_len (k : Int) (n : Nat) : (marksF k n).length = n := by simp [marksF]
theorem marksF_succ (k : Int) (n : Nat) : marksF k (n + 1) = marksF k n ++ [k + (n : Int)] := by simp [marksF, List.range_succ]
theorem marksF_get {k : Int} {n i : Nat} (h : i < n) : (marksF k n)[i]? = some (k + (i : Int)) := by simp [marksF, h]
def half (k : Int) (xs : List Int) (i : Nat) : List Int := marksF k i ++ xs.drop i
theorem half_set {k : Int} {xs : List Int} {i : Nat} (h : i < xs.length) : (half k xs i).set i (k + (i : Int)) = half k xs (i + 1) := by
  unfold half
  rw [marksF_succ, List.drop_eq_getElem_cons h, List.set_append_right _ _ (Nat.le_of_eq (marksF_len k i)), marksF_len, Nat.sub_self, List.set_cons_zero, List.append_assoc]
  rfl
theorem own_at {w : World} {B : Nat} {v : Value} {xs : List Int} (h : w.ownsRow B 2 1 v xs.length (vals xs)) : Nu.At w B v xs := by
  have hh := h
  obtain ⟨hl, ⟨rfl, h0⟩ | ⟨g, cap, cur, rfl, hbg, hg, hle, hm, hs, ht⟩⟩ := h
  · exact ⟨none, 0, by rw [h0], by omega, by unfold maxLen; omega, .inl (List.eq_nil_of_length_eq_zero h0)⟩
  · have hI := Ints.IntsAt.of hh
    refine ⟨_, cap, rfl, hle, by first | exact hm | (unfold maxLen at *; omega), .inr ⟨g, 0, rfl, hbg, blk_lt hg, fun i hi => ?_⟩⟩
    obtain ⟨g', hg', _, hc⟩ := hI.at hi
    cases hg'
    rw [Nat.zero_add]
    exact hc
set_option maxRecDepth 100000 in
set_option maxHeartbeats 2000000 in
theorem markS (B : Nat) (v : Value) (xs : List Int) (k0 : Int) (w : World) (hn : xs.length ≤ 1048576) (h0 : 0 < k0) (hk0 : k0 ≤ 17592186044416) (h : w.ownsRow B 2 1 v xs.length (vals xs)) :
    Calls Tryz.prog 16 #[v, .int .i64 k0] w fun e w' => e = .returned (.int .i64 (k0 + (xs.length : Int))) ∧ w'.ownsRow B 2 1 v xs.length (vals (marksF k0 xs.length)) ∧ w.grownBy w' v.ownBlock := by
  obtain ⟨a, cap, rfl⟩ := owns_slice h
  have HO := hid h
  clear h
  go_enter Tryz.func16, Tryz.ntmps16
  go_wp2
  go_loopw [1, 5] (fun q i wr => ∃ k : Nat, i = .int .i64 k ∧ q = .int .i64 (k0 + (k : Int)) ∧ k ≤ xs.length ∧ Hid (wr.ownsRow B 2 1 (.slice a xs.length cap) xs.length (vals (half k0 xs k))) ∧ w.grownBy wr (Value.slice a xs.length cap).ownBlock) (fun _ i _ => xs.length - (intOf i).toNat)
  case atStart => exact ⟨0, rfl, by simp, Nat.zero_le _, hid (by simpa [half, marksF] using HO.out), grown_refl _ _⟩
  case round =>
    obtain ⟨k, rfl, rfl, hk, HR, hbel⟩ := hrel
    by_cases hlt : k < xs.length
    · obtain ⟨g, c2, e2⟩ := owns_some HR.out (by omega)
      cases e2
      have q1 : (k : Int) < (xs.length : Int) := by omega
      obtain ⟨⟨u, hcu⟩, hfu, hbg, hgl⟩ := owns_cell HR.out hlt
      have HS : Hid ((wr.setCell ⟨g, k, none⟩ (.int .i64 (k0 + (k : Int)))).ownsRow B 2 1 (.slice (some ⟨g, 0, none⟩) xs.length cap) xs.length (vals (half k0 xs (k + 1)))) := hid (by
        have h := (HR.out.stored k (.int .i64 (k0 + (k : Int)))).1
        have e : (vals (half k0 xs k)).set k (.int .i64 (k0 + (k : Int))) = vals (half k0 xs (k + 1)) := by
          unfold vals
          rw [← half_set hlt]
          simp
        rw [e] at h
        exact h)
      have hb2 : w.grownBy (wr.setCell ⟨g, k, none⟩ (.int .i64 (k0 + (k : Int)))) (some g) := grown_set hbel k _
      go_wp2
      exact ⟨⟨k + 1, by simp, by simp; omega, by omega, HS, hb2⟩, by simp [intOf]; omega⟩
    · obtain rfl : k = xs.length := by omega
      have HS : Hid (wr.ownsRow B 2 1 (.slice a xs.length cap) xs.length (vals (marksF k0 xs.length))) := hid (by simpa [half] using HR.out)
      go_wp2
      go_ret
      exact ⟨rfl, HS.out, hbel⟩
set_option maxRecDepth 100000 in
set_option maxHeartbeats 2000000 in
theorem heldS (B : Nat) (v : Value) (n : Nat) (k0 : Int) (w : World) (hn : n ≤ 1048576) (h0 : 0 < k0) (hk0 : k0 ≤ 17592186044416) (h : Nu.At w B v (marksF k0 n)) :
    Calls Tryz.prog 76 #[v, .int .i64 k0] w fun e w' => e = .returned (.int .i64 (k0 + (n : Int))) ∧ w' = w := by
  obtain ⟨a, cap, rfl⟩ := h.slice
  have H1 := hid h
  clear h
  rw [marksF_len] at H1 ⊢
  go_enter Tryz.func76, Tryz.ntmps76
  go_wp2
  go_loop [1, 5] (fun q i => ∃ k : Nat, i = .int .i64 k ∧ q = .int .i64 (k0 + (k : Int)) ∧ k ≤ n) (fun _ i => n - (intOf i).toNat)
  case atStart => exact ⟨0, rfl, by simp, Nat.zero_le _⟩
  case round =>
    obtain ⟨k, rfl, rfl, hk⟩ := hrel
    by_cases hlt : k < n
    · obtain ⟨g, o, rfl, hg, hc⟩ := H1.out.at (i := k) (by rw [marksF_len]; exact hlt)
      have hmt : (marksF k0 n)[k]'(by rw [marksF_len]; exact hlt) = k0 + (k : Int) := by
        have h := marksF_get (k := k0) hlt
        rw [List.getElem?_eq_getElem (by rw [marksF_len]; exact hlt)] at h
        exact Option.some.inj h
      rw [hmt] at hc
      have hne : ((k0 + (k : Int)) != (k0 + (k : Int))) = false := by simp
      clear hmt
      have q1 : (k : Int) < (n : Int) := by omega
      go_wp2
      exact ⟨⟨k + 1, by simp, by simp; omega, by omega⟩, by simp [intOf]; omega⟩
    · obtain rfl : k = n := by omega
      go_wp2
      go_ret
      exact ⟨rfl, rfl⟩
/-- A chart whose three rows are its own. -/
structure Own3 (w : World) (B : Nat) (v1 v2 v3 : Value) (r : RunD) : Prop where
  vars : w.ownsRow B 2 1 v1 r.vars.length (vals r.vars)
  marks : w.ownsRow B 2 1 v2 r.marks.length (vals r.marks)
  dues : w.ownsRow B 2 1 v3 r.dues.length (vals r.dues)
  d12 : ∀ b, v1.ownBlock = some b → v2.ownBlock ≠ some b
  d13 : ∀ b, v1.ownBlock = some b → v3.ownBlock ≠ some b
  d23 : ∀ b, v2.ownBlock = some b → v3.ownBlock ≠ some b
theorem Own3.at' {w : World} {B : Nat} {v1 v2 v3 : Value} {r : RunD} (h : Own3 w B v1 v2 v3 r) : Ch.At w B v1 v2 v3 r := ⟨own_at h.vars, own_at h.marks, own_at h.dues⟩
theorem Own3.below {w w' : World} {B : Nat} {v1 v2 v3 : Value} {r : RunD} (h : Own3 w B v1 v2 v3 r) (hb : Below w.heap.size w w') : Own3 w' B v1 v2 v3 r := ⟨owns_below h.vars hb, owns_below h.marks hb, owns_below h.dues hb, h.d12, h.d13, h.d23⟩
theorem own_kept {w w' : World} {B : Nat} {v : Value} {n : Nat} {xs : List Value} (ho : w.ownsRow B 2 1 v n xs) (hb : ∀ b, v.ownBlock = some b → w'.heap[b]? = w.heap[b]?) : w'.ownsRow B 2 1 v n xs := by
  refine ⟨ho.1, ?_⟩
  rcases ho.2 with hn | ⟨g, cap, cur, rfl, hbg, hg, rest⟩
  · exact .inl hn
  · exact .inr ⟨g, cap, cur, rfl, hbg, by rw [hb g rfl]; exact hg, rest⟩
theorem own_base {w : World} {B B' : Nat} {v : Value} {n : Nat} {xs : List Value} (h : w.ownsRow B 2 1 v n xs) (hb : B' ≤ B) : w.ownsRow B' 2 1 v n xs := by
  refine ⟨h.1, ?_⟩
  rcases h.2 with hn | ⟨g, cap, cur, rfl, hbg, rest⟩
  · exact .inl hn
  · exact .inr ⟨g, cap, cur, rfl, Nat.le_trans hb hbg, rest⟩
theorem own_in {w : World} {B : Nat} {v : Value} {n b : Nat} {xs : List Value} (ho : w.ownsRow B 2 1 v n xs) (h : v.ownBlock = some b) : B ≤ b ∧ b < w.heap.size := by
  rcases ho.2 with ⟨rfl, _⟩ | ⟨g, cap, cur, rfl, hbg, hg, rest⟩
  · cases h
  · cases h; exact ⟨hbg, blk_lt hg⟩
theorem Own3.kept {w w' : World} {B : Nat} {v1 v2 v3 : Value} {r : RunD} (h : Own3 w B v1 v2 v3 r) (hb : ∀ b, B ≤ b → b < w.heap.size → w'.heap[b]? = w.heap[b]?) : Own3 w' B v1 v2 v3 r :=
  ⟨own_kept h.vars (fun b e => hb b (own_in h.vars e).1 (own_in h.vars e).2), own_kept h.marks (fun b e => hb b (own_in h.marks e).1 (own_in h.marks e).2), own_kept h.dues (fun b e => hb b (own_in h.dues e).1 (own_in h.dues e).2), h.d12, h.d13, h.d23⟩
def markedR (k : Int) (r : RunD) : RunD := ⟨r.status, r.now, marksF k r.vars.length, marksF (k + r.vars.length) r.marks.length, marksF (k + r.vars.length + r.marks.length) r.dues.length⟩
/-- What is marked is written, and nothing else; what is new may be there. -/
structure Within (w w' : World) (B C : Nat) : Prop where
  os : w'.os = w.os
  tape : w'.tape = w.tape
  output : w'.output = w.output
  size : w.heap.size ≤ w'.heap.size
  block : ∀ b, b < w.heap.size → b < B ∨ C ≤ b → w'.heap[b]? = w.heap[b]?
theorem Within.of_below {w w' : World} (B C : Nat) (h : Below w.heap.size w w') : Within w w' B C := ⟨h.os, h.tape, h.output, h.size, fun b hb _ => h.block b hb⟩
theorem Within.trans {a b c : World} {B C : Nat} (h : Within a b B C) (h' : Within b c B C) : Within a c B C := ⟨h'.os.trans h.os, h'.tape.trans h.tape, h'.output.trans h.output, Nat.le_trans h.size h'.size, fun k hk ho => (h'.block k (Nat.lt_of_lt_of_le hk h.size) ho).trans (h.block k hk ho)⟩
theorem Within.of_grown {w w' : World} {B C : Nat} {v : Value} (h : w.grownBy w' v.ownBlock) (hv : ∀ b, v.ownBlock = some b → B ≤ b ∧ b < C) : Within w w' B C := ⟨h.os, h.tape, h.output, h.size, fun b hb ho => h.block b hb (fun e => by have := hv b e.symm; omega)⟩
set_option maxRecDepth 100000 in
set_option maxHeartbeats 8000000 in
theorem markC (B C : Nat) (r : RunD) (v1 v2 v3 : Value) (k : Int) (w : World) (hs : Ch.Small 1048576 r) (h0 : 0 < k) (hk : k ≤ 17592180000000) (hC : C ≤ w.heap.size) (h : Own3 w B v1 v2 v3 r) (hin : ∀ b, v1.ownBlock = some b ∨ v2.ownBlock = some b ∨ v3.ownBlock = some b → b < C) :
    Calls Tryz.prog 24 #[.agg #[.int .i64 r.status, .int .i64 r.now, v1, v2, v3], .int .i64 k] w fun e w' => e = .returned (.int .i64 (k + r.vars.length + r.marks.length + r.dues.length)) ∧ Own3 w' B v1 v2 v3 (markedR k r) ∧ Within w w' B C := by
  have s1 := hs.vars
  have s2 := hs.marks
  have s3 := hs.dues
  obtain ⟨a1, c1, rfl⟩ := owns_slice h.vars
  obtain ⟨a2, c2, rfl⟩ := owns_slice h.marks
  obtain ⟨a3, c3, rfl⟩ := owns_slice h.dues
  obtain ⟨w0, e0⟩ : ∃ w0, w0 = w.alloc (.cells #[.int .i64 r.status, .int .i64 r.now, .slice a1 r.vars.length c1, .slice a2 r.marks.length c2, .slice a3 r.dues.length c3] 26) := ⟨_, rfl⟩
  have hb0 : Below w.heap.size w w0 := by rw [e0]; exact (Below.refl _ w).alloc (Nat.le_refl _) _
  have hk0 : w0.heap[w.heap.size]? = some (.cells #[.int .i64 r.status, .int .i64 r.now, .slice a1 r.vars.length c1, .slice a2 r.marks.length c2, .slice a3 r.dues.length c3] 26) := by rw [e0]; exact new_blk _ _
  have HO := hid (h.below hb0)
  have HI := hid hin
  have HW0 : Hid (Within w w0 B C) := hid (Within.of_below B C hb0)
  have HM1 := hid (markS B _ r.vars k w0 (by omega) h0 (by omega) (h.below hb0).vars)
  have HN : Hid (∀ b, (Value.slice a1 r.vars.length c1).ownBlock = some b ∨ (Value.slice a2 r.marks.length c2).ownBlock = some b ∨ (Value.slice a3 r.dues.length c3).ownBlock = some b → B ≤ b ∧ b < C ∧ b < w.heap.size) := hid (fun b hb => by
    have h1 := hin b hb
    rcases hb with hb | hb | hb
    · exact ⟨(own_in h.vars hb).1, h1, (own_in h.vars hb).2⟩
    · exact ⟨(own_in h.marks hb).1, h1, (own_in h.marks hb).2⟩
    · exact ⟨(own_in h.dues hb).1, h1, (own_in h.dues hb).2⟩)
  clear h hb0 hin
  go_enter Tryz.func24, Tryz.ntmps24
  go_wp2_with fail
  rw [← e0]
  clear e0
  refine HM1.out.mono ?_
  rintro e w1 ⟨rfl, ho1, hg1⟩
  have hk1 := (hg1.block _ (blk_lt hk0) (fun e => by have := HN.out _ (.inl e.symm); omega)).trans hk0
  have d3 : w1.cell? ⟨w.heap.size, 3, none⟩ = some (.slice a2 r.marks.length c2) := blk_cell hk1 3
  have O11 := hid ho1
  have O12 := hid (own_kept HO.out.marks (fun b e => hg1.block b (own_in HO.out.marks e).2 (fun e2 => HO.out.d12 b e2.symm e)))
  have O13 := hid (own_kept HO.out.dues (fun b e => hg1.block b (own_in HO.out.dues e).2 (fun e2 => HO.out.d13 b e2.symm e)))
  have HW1 := hid (HW0.out.trans (Within.of_grown hg1 (fun b e => by have := HN.out b (.inl e); omega)))
  have HM2 := hid (markS B _ r.marks (k + (r.vars.length : Int)) w1 (by omega) (by omega) (by omega) O12.out)
  have HK1 := hid hk1
  clear ho1 hg1 hk0 HM1 HW0 hk1
  go_wp2_with fail
  refine HM2.out.mono ?_
  rintro e w2 ⟨rfl, ho2, hg2⟩
  have hk2 := (hg2.block _ (blk_lt HK1.out) (fun e => by have := HN.out _ (.inr (.inl e.symm)); omega)).trans HK1.out
  have d4 : w2.cell? ⟨w.heap.size, 4, none⟩ = some (.slice a3 r.dues.length c3) := blk_cell hk2 4
  have O22 := hid ho2
  have O21 := hid (own_kept O11.out (fun b e => hg2.block b (own_in O11.out e).2 (fun e2 => HO.out.d12 b e e2.symm)))
  have O23 := hid (own_kept O13.out (fun b e => hg2.block b (own_in O13.out e).2 (fun e2 => HO.out.d23 b e2.symm e)))
  have HW2 := hid (HW1.out.trans (Within.of_grown hg2 (fun b e => by have := HN.out b (.inr (.inl e)); omega)))
  have HM3 := hid (markS B _ r.dues (k + (r.vars.length : Int) + (r.marks.length : Int)) w2 (by omega) (by omega) (by omega) O23.out)
  have HK2 := hid hk2
  clear ho2 hg2 HK1 HM2 HW1 hk2 O11 O12 O13 d3
  go_wp2_with fail
  refine HM3.out.mono ?_
  rintro e w3 ⟨rfl, ho3, hg3⟩
  have O33 := hid ho3
  have O31 := hid (own_kept O21.out (fun b e => hg3.block b (own_in O21.out e).2 (fun e2 => HO.out.d13 b e e2.symm)))
  have O32 := hid (own_kept O22.out (fun b e => hg3.block b (own_in O22.out e).2 (fun e2 => HO.out.d23 b e e2.symm)))
  have HW3 := hid (HW2.out.trans (Within.of_grown hg3 (fun b e => by have := HN.out b (.inr (.inr e)); omega)))
  clear ho3 hg3 HK2 HM3 HW2 O21 O22 O23 d4
  go_wp2
  go_ret
  refine ⟨rfl, ⟨?_, ?_, ?_, HO.out.d12, HO.out.d13, HO.out.d23⟩, HW3.out⟩
  · have := O31.out; simpa only [markedR, marksF_len] using this
  · have := O32.out; simpa only [markedR, marksF_len] using this
  · have := O33.out; simpa only [markedR, marksF_len] using this
set_option maxRecDepth 100000 in
set_option maxHeartbeats 8000000 in
theorem markR (B C : Nat) (r : RunD) (cc : Int) (v1 v2 v3 : Value) (w : World) (hs : Ch.Small 1048576 r) (hC : C ≤ w.heap.size) (h : Own3 w B v1 v2 v3 r) (hin : ∀ b, v1.ownBlock = some b ∨ v2.ownBlock = some b ∨ v3.ownBlock = some b → b < C) :
    Calls Tryz.prog 17 #[.agg #[.int .i64 cc, .int .i64 r.status, .int .i64 r.now, v1, v2, v3], .int .i64 1] w fun e w' => e = .returned (.int .i64 (1 + r.vars.length + r.marks.length + r.dues.length)) ∧ Own3 w' B v1 v2 v3 (markedR 1 r) ∧ Within w w' B C := by
  obtain ⟨a1, c1, rfl⟩ := owns_slice h.vars
  obtain ⟨a2, c2, rfl⟩ := owns_slice h.marks
  obtain ⟨a3, c3, rfl⟩ := owns_slice h.dues
  obtain ⟨w0, e0⟩ : ∃ w0, w0 = w.alloc (.cells #[.int .i64 cc, .int .i64 r.status, .int .i64 r.now, .slice a1 r.vars.length c1, .slice a2 r.marks.length c2, .slice a3 r.dues.length c3] 28) := ⟨_, rfl⟩
  have hb0 : Below w.heap.size w w0 := by rw [e0]; exact (Below.refl _ w).alloc (Nat.le_refl _) _
  have HW0 : Hid (Within w w0 B C) := hid (Within.of_below B C hb0)
  have HM := hid (markC B C r _ _ _ 1 w0 hs (by omega) (by omega) (Nat.le_trans hC hb0.size) (h.below hb0) hin)
  clear h hb0 hin
  go_enter Tryz.func17, Tryz.ntmps17
  go_wp2_with fail
  rw [← e0]
  clear e0
  refine HM.out.mono ?_
  rintro e w1 ⟨rfl, ho, hg⟩
  have HO1 := hid ho
  have HW1 := hid (HW0.out.trans hg)
  clear ho hg
  go_wp2
  go_ret
  exact ⟨rfl, HO1.out, HW1.out⟩
set_option maxRecDepth 100000 in
set_option maxHeartbeats 8000000 in
theorem heldC (B : Nat) (r : RunD) (v1 v2 v3 : Value) (k : Int) (w : World) (hs : Ch.Small 1048576 r) (h0 : 0 < k) (hk : k ≤ 17592180000000) (h : Ch.At w B v1 v2 v3 (markedR k r)) :
    Calls Tryz.prog 45 #[.agg #[.int .i64 r.status, .int .i64 r.now, v1, v2, v3], .int .i64 k] w fun e w' => e = .returned (.int .i64 (k + r.vars.length + r.marks.length + r.dues.length)) ∧ Below w.heap.size w w' := by
  have s1 := hs.vars
  have s2 := hs.marks
  have s3 := hs.dues
  obtain ⟨a1, c1, hv1⟩ := h.vars.slice
  obtain ⟨a2, c2, hv2⟩ := h.marks.slice
  obtain ⟨a3, c3, hv3⟩ := h.dues.slice
  simp only [markedR, marksF_len] at hv1 hv2 hv3
  subst hv1 hv2 hv3
  obtain ⟨w0, e0⟩ : ∃ w0, w0 = w.alloc (.cells #[.int .i64 r.status, .int .i64 r.now, .slice a1 r.vars.length c1, .slice a2 r.marks.length c2, .slice a3 r.dues.length c3] 26) := ⟨_, rfl⟩
  have hb0 : Below w.heap.size w w0 := by rw [e0]; exact (Below.refl _ w).alloc (Nat.le_refl _) _
  have hk0 : w0.heap[w.heap.size]? = some (.cells #[.int .i64 r.status, .int .i64 r.now, .slice a1 r.vars.length c1, .slice a2 r.marks.length c2, .slice a3 r.dues.length c3] 26) := by rw [e0]; exact new_blk _ _
  have HM1 := hid (heldS B _ r.vars.length k w0 (by omega) h0 (by omega) (h.below hb0).vars)
  have HM2 := hid (heldS B _ r.marks.length (k + (r.vars.length : Int)) w0 (by omega) (by omega) (by omega) (h.below hb0).marks)
  have HM3 := hid (heldS B _ r.dues.length (k + (r.vars.length : Int) + (r.marks.length : Int)) w0 (by omega) (by omega) (by omega) (h.below hb0).dues)
  have HB := hid hb0
  have d3 : w0.cell? ⟨w.heap.size, 3, none⟩ = some (.slice a2 r.marks.length c2) := blk_cell hk0 3
  have d4 : w0.cell? ⟨w.heap.size, 4, none⟩ = some (.slice a3 r.dues.length c3) := blk_cell hk0 4
  have d5 := blk_lt hk0
  have q1 : ¬ (k + (r.vars.length : Int)) < 0 := by omega
  have q2 : ¬ (k + (r.vars.length : Int) + (r.marks.length : Int)) < 0 := by omega
  have q3 : ¬ (k + (r.vars.length : Int) + (r.marks.length : Int) + (r.dues.length : Int)) < 0 := by omega
  clear h hb0 hk0
  go_enter Tryz.func45, Tryz.ntmps45
  go_wp2_with fail
  rw [← e0]
  clear e0
  refine HM1.out.mono ?_
  rintro e w1 ⟨rfl, hw1⟩
  subst hw1
  go_wp2_with fail
  refine HM2.out.mono ?_
  rintro e w2 ⟨rfl, hw2⟩
  subst hw2
  go_wp2_with fail
  refine HM3.out.mono ?_
  rintro e w3 ⟨rfl, hw3⟩
  subst hw3
  go_wp2
  go_ret
  exact ⟨rfl, HB.out⟩
set_option maxRecDepth 100000 in
set_option maxHeartbeats 8000000 in
theorem heldR (B : Nat) (r : RunD) (cc : Int) (v1 v2 v3 : Value) (w : World) (hs : Ch.Small 1048576 r) (h : Ch.At w B v1 v2 v3 (markedR 1 r)) :
    Calls Tryz.prog 18 #[.agg #[.int .i64 cc, .int .i64 r.status, .int .i64 r.now, v1, v2, v3], .int .i64 1] w fun e w' => e = .returned (.int .i64 (1 + r.vars.length + r.marks.length + r.dues.length)) ∧ Below w.heap.size w w' := by
  obtain ⟨a1, c1, hv1⟩ := h.vars.slice
  obtain ⟨a2, c2, hv2⟩ := h.marks.slice
  obtain ⟨a3, c3, hv3⟩ := h.dues.slice
  simp only [markedR, marksF_len] at hv1 hv2 hv3
  subst hv1 hv2 hv3
  obtain ⟨w0, e0⟩ : ∃ w0, w0 = w.alloc (.cells #[.int .i64 cc, .int .i64 r.status, .int .i64 r.now, .slice a1 r.vars.length c1, .slice a2 r.marks.length c2, .slice a3 r.dues.length c3] 28) := ⟨_, rfl⟩
  have hb0 : Below w.heap.size w w0 := by rw [e0]; exact (Below.refl _ w).alloc (Nat.le_refl _) _
  have HM := hid (heldC B r _ _ _ 1 w0 hs (by omega) (by omega) (h.below hb0))
  have HB := hid hb0
  have q3 : ¬ (1 + (r.vars.length : Int) + (r.marks.length : Int) + (r.dues.length : Int)) < 0 := by omega
  clear h hb0
  go_enter Tryz.func18, Tryz.ntmps18
  go_wp2_with fail
  rw [← e0]
  clear e0
  refine HM.out.mono ?_
  rintro e w1 ⟨rfl, hb1⟩
  have HB1 := hid (HB.out.trans (hb1.mono HB.out.size))
  clear hb1
  go_wp2
  go_ret
  exact ⟨rfl, HB1.out⟩
set_option maxRecDepth 100000 in
set_option maxHeartbeats 4000000 in
theorem eqR (B1 B2 : Nat) (cc : Int) (r : RunD) (v1 v2 v3 u1 u2 u3 : Value) (w : World) (hl : Ch.Small 1048576 r) (h1 : Ch.At w B1 v1 v2 v3 r) (h2 : Ch.At w B2 u1 u2 u3 r) :
    Calls Tryz.prog 12 #[.agg #[.int .i64 cc, .int .i64 r.status, .int .i64 r.now, v1, v2, v3], .agg #[.int .i64 cc, .int .i64 r.status, .int .i64 r.now, u1, u2, u3]] w fun e w' => e = .returned (.bool true) ∧ Below w.heap.size w w' := by
  obtain ⟨a1, c1, rfl⟩ := h1.vars.slice
  obtain ⟨a2, c2, rfl⟩ := h1.marks.slice
  obtain ⟨a3, c3, rfl⟩ := h1.dues.slice
  obtain ⟨b1, d1, rfl⟩ := h2.vars.slice
  obtain ⟨b2, d2, rfl⟩ := h2.marks.slice
  obtain ⟨b3, d3, rfl⟩ := h2.dues.slice
  have e1 : (cc != cc) = false := by simp
  obtain ⟨w0, e0⟩ : ∃ w0, w0 = (w.alloc (.cells #[.int .i64 cc, .int .i64 r.status, .int .i64 r.now, .slice a1 r.vars.length c1, .slice a2 r.marks.length c2, .slice a3 r.dues.length c3] 28)).alloc (.cells #[.int .i64 cc, .int .i64 r.status, .int .i64 r.now, .slice b1 r.vars.length d1, .slice b2 r.marks.length d2, .slice b3 r.dues.length d3] 28) := ⟨_, rfl⟩
  have hb0 : Below w.heap.size w w0 := by rw [e0]; exact ((Below.refl _ w).alloc (Nat.le_refl _) _).alloc (by simp) _
  have HE := hid (Ch.eq B1 B2 r _ _ _ _ _ _ w0 hl (h1.below hb0) (h2.below hb0))
  have HB := hid hb0
  clear h1 h2 hl hb0
  go_enter Tryz.func12, Tryz.ntmps12
  go_wp2_with fail
  rw [← e0]
  clear e0
  refine HE.out.mono ?_
  rintro e w1 ⟨rfl, hb1⟩
  have HB1 := hid (HB.out.trans (hb1.mono HB.out.size))
  clear hb1
  go_wp2
  go_ret
  exact ⟨rfl, HB1.out⟩
end Cr
end Go.Proofs.YtpgbjpfpgbjbeaaGreatDoor
/- The specification's copy of a list of numbers. -/
namespace Go.Proofs.YtpgbjpfpgbjbeaaGreatDoor
open Go.RowKit Go.Deep
set_option linter.unusedVariables false
set_option linter.unusedSimpArgs false
namespace Kw
open Ex (inR evalCode evalVal vFault hid)
open St (StepD)
open Ch (RunD)
open Pf
open Kc
open Kt (Row Pos SAt Ride)
open Ex (info_parts)
def gf (xs : List Int) : Nat → Int := fun i => xs.getD i 0
theorem row_of {w : World} {B : Nat} {a : Option Addr} {n c b : Nat} {xs : List Int} (h : w.ownsRow B 2 1 (.slice a n c) n (Ints.vals xs)) (hb : (Value.slice a n c).ownBlock = some b) : a = some ⟨b, 0, none⟩ ∧ B ≤ b ∧ Row w b n c (gf xs) := by
  obtain ⟨hl, ⟨h0, _⟩ | ⟨g, cap, cur, hv, hbg, hg, hle, hm, hs, ht⟩⟩ := h
  · cases h0; cases hb
  · cases hv
    cases hb
    refine ⟨rfl, hbg, ⟨⟨cur, hg, by omega, fun i hi => ?_⟩, hle, hm⟩⟩
    have hx : xs.length = n := by simpa [Ints.vals] using hl
    have h1 : (cur.toList.take (n * 1))[i]? = (Ints.vals xs)[i]? := by rw [ht]
    rw [List.getElem?_take_of_lt (by omega), Array.getElem?_toList] at h1
    rw [h1]
    simp only [Ints.vals, List.getElem?_map, gf]
    rw [List.getElem?_eq_getElem (by omega), List.getD_eq_getElem?_getD, List.getElem?_eq_getElem (by omega)]
    rfl
theorem add_at (b o j : Nat) : (⟨b, o, none⟩ : Addr).add j = ⟨b, o + j, none⟩ := by
  unfold Addr.add
  split
  · next h => subst h; rfl
  · rfl
theorem ap_row {w : World} {B : Nat} {v : Value} {xs : List Int} (h : Nu.At w B v xs) : Ap.Row w 1 v xs.length (Ints.vals xs) := by
  obtain ⟨a, cap, rfl, hle, hm, h2⟩ := h
  refine ⟨a, cap, rfl, by simp [Ints.vals], fun u hu => ?_, ?_⟩
  · simp only [Ints.vals, List.mem_map] at hu
    obtain ⟨x, _, rfl⟩ := hu
    rfl
  · rcases h2 with rfl | ⟨g, o, rfl, hB, hg, hc⟩
    · exact .inl rfl
    · refine .inr ⟨_, rfl, fun j u hu => ?_⟩
      simp only [Ints.vals, List.getElem?_map] at hu
      rcases Nat.lt_or_ge j xs.length with hj | hj
      · rw [List.getElem?_eq_getElem hj] at hu
        cases hu
        rw [add_at]
        exact hc j hj
      · rw [List.getElem?_eq_none hj] at hu
        cases hu
set_option maxRecDepth 100000 in
set_option maxHeartbeats 4000000 in
theorem specInts (B : Nat) (xs : List Int) (v : Value) (w : World) (hl : xs.length ≤ 1048576) (ha : Nu.At w B v xs) :
    Calls Tryz.prog 34 #[v] w fun e w' => (∃ b c, e = .returned (.slice (some ⟨b, 0, none⟩) xs.length c) ∧ w.heap.size ≤ b ∧ Row w' b xs.length c (gf xs)) ∧ Below w.heap.size w w' := by
  obtain ⟨a, cap, rfl⟩ := ha.slice
  obtain ⟨w0, e0⟩ : ∃ w0, w0 = w.alloc (.cells #[] 2) := ⟨_, rfl⟩
  have hb0 : Below w.heap.size w w0 := by rw [e0]; exact (Below.refl _ w).alloc (Nat.le_refl _) _
  have HO : Hid (w0.ownsRow w.heap.size 2 1 (.slice (some ⟨w.heap.size, 0, none⟩) 0 0) 0 []) := hid (by rw [e0]; exact World.ownsRow_made w #[] 0 (Nat.le_refl _) (by unfold maxLen; omega) rfl)
  have HR := hid (ap_row (ha.below hb0))
  have HB0 := hid hb0
  clear ha hb0
  obtain ⟨j0, hj, hy0, hy1, hy2⟩ := info_parts Ex.infoI64
  go_enter Tryz.func34, Tryz.ntmps34
  go_wp2_with (at_builtin; rw [← e0]; go_must (refine Ap.wpList_any _ rfl _ _ 23 rfl w.heap.size 2 j0 (.int .i64 0) 1 8 Tryz.underlying23 hj hy0 hy1 hy2 rfl (by decide) _ _ _ rfl HO.out _ _ _ rfl HR.out (by unfold maxLen; omega) (by omega) HB0.out.size _ rfl ?_); intro a9 c9 w9 hown9 hg9 hat9)
  clear e0
  rw [Nat.zero_add] at hown9 hat9
  have hb9 : Below w.heap.size w w9 := HB0.out.grown hg9 HB0.out.size (fun b e => by cases e; exact Nat.le_refl _)
  have h5 : ∃ b, (Value.slice a9 xs.length c9).ownBlock = some b := by
    rcases hat9 with h | h
    · exact ⟨_, h⟩
    · exact ⟨_, h⟩
  obtain ⟨b, hb⟩ := h5
  obtain ⟨rfl, hle, hrow⟩ := row_of hown9 hb
  have HF := hid hrow
  clear hown9 hat9 hg9 hrow hb
  go_ret
  exact ⟨⟨b, c9, rfl, hle, HF.out⟩, hb9⟩
end Kw
end Go.Proofs.YtpgbjpfpgbjbeaaGreatDoor
