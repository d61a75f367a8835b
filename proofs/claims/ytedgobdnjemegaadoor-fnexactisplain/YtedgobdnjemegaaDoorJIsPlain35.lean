/- Which processes are plain: just those that are left as they are when they are made plain. -/
import Derived.Test.YtedgobdnjemegaaDoorJIsPlain34
namespace Go.Proofs.YtedgobdnjemegaaDoor
open Go.RowKit
set_option linter.unusedVariables false
namespace Pl
open Ex (hid inR)
open St (StepD)
open Nd (NodeD)
open Pf
def bad (ss : List StepD) (k : Nat) : Prop := (PJ ss k).kind = 1 ∧ ((kidsL ss k).length = 1 ∨ ∃ j ∈ kidsL ss k, (PJ ss j).kind = 1)
theorem gT_s (ss : List StepD) (f k : Nat) : (gT ss f k).s = PJ ss k := by cases f <;> rfl
theorem plB_kind {ss : List StepD} {f k : Nat} (h : (PJ ss k).kind ≠ 1) : (plB ss f k).s = PJ ss k := by
  cases f with
  | zero => rfl
  | succ f => rw [plB, if_neg h]
theorem plain_same {ss : List StepD} (h : ∀ k, k < ss.length → ¬ bad ss k) : ∀ (f k : Nat), k < ss.length → plB ss f k = gT ss f k
  | 0, k, hk => rfl
  | f + 1, k, hk => by
    have hm : (kidsL ss k).map (plB ss f) = (kidsL ss k).map (gT ss f) := List.map_congr_left (fun j hj => plain_same h f j (kid_mem hj).1)
    rw [plB, gT, hm]
    by_cases h1 : (PJ ss k).kind = 1
    · rw [if_pos h1]
      have hb := h k hk
      have hl : ∀ (l : List Nat), (∀ j ∈ l, (PJ ss j).kind ≠ 1) → lineT (l.map (gT ss f)) = l.map (gT ss f) := by
        intro l
        induction l with
        | nil => intro _; rfl
        | cons a l ih =>
          intro hx
          have e : lineT ((a :: l).map (gT ss f)) = pieceT (gT ss f a) ++ lineT (l.map (gT ss f)) := by simp [lineT]
          rw [e, ih (fun j hj => hx j (by simp [hj]))]
          unfold pieceT
          rw [gT_s, if_neg (hx a (by simp))]
          rfl
      have hk1 : ∀ j ∈ kidsL ss k, (PJ ss j).kind ≠ 1 := fun j hj e => hb ⟨h1, .inr ⟨j, hj, e⟩⟩
      rw [hl _ hk1]
      unfold wholeT
      rw [if_neg (by rw [List.length_map]; exact fun e => hb ⟨h1, .inl e⟩)]
    · rw [if_neg h1]
/-- How many steps there are from a step on. -/
abbrev nG (ss : List StepD) (f k : Nat) : Nat := cnt f (gT ss f k)
theorem nG_succ (ss : List StepD) (f k : Nat) : nG ss (f + 1) k = 1 + ((kidsL ss k).map (nG ss f)).sum := by
  unfold nG
  rw [gT, cnt]
  simp only [List.map_map]
  rfl
theorem piece_le {x : PT} {g : Nat} (h : ∀ F, cnt F x ≤ g) (F : Nat) : ((pieceT x).map (cnt F)).sum ≤ g := by
  unfold pieceT
  by_cases hk : x.s.kind = 1
  · rw [if_pos hk]
    have := h (F + 1)
    rw [cnt] at this
    omega
  · rw [if_neg hk]
    simpa using h F
theorem piece_lt {x : PT} {g : Nat} (h : ∀ F, cnt F x < g) (F : Nat) : ((pieceT x).map (cnt F)).sum < g := by
  unfold pieceT
  by_cases hk : x.s.kind = 1
  · rw [if_pos hk]
    have := h (F + 1)
    rw [cnt] at this
    omega
  · rw [if_neg hk]
    simpa using h F
theorem line_le {p : Nat → PT} {g : Nat → Nat} (F : Nat) : ∀ (l : List Nat), (∀ j ∈ l, ((pieceT (p j)).map (cnt F)).sum ≤ g j) → ((lineT (l.map p)).map (cnt F)).sum ≤ (l.map g).sum
  | [], _ => by simp [lineT]
  | a :: l, h => by
    have e : lineT ((a :: l).map p) = pieceT (p a) ++ lineT (l.map p) := by simp [lineT]
    have h1 := h a (by simp)
    have h2 := line_le F l (fun j hj => h j (by simp [hj]))
    rw [e, List.map_append, List.sum_append, List.map_cons, List.sum_cons]
    omega
theorem line_lt {p : Nat → PT} {g : Nat → Nat} (F : Nat) {x : Nat} : ∀ (l : List Nat), (∀ j ∈ l, ((pieceT (p j)).map (cnt F)).sum ≤ g j) → x ∈ l → ((pieceT (p x)).map (cnt F)).sum < g x → ((lineT (l.map p)).map (cnt F)).sum < (l.map g).sum
  | [], _, hx, _ => by cases hx
  | a :: l, h, hx, hlt => by
    have e : lineT ((a :: l).map p) = pieceT (p a) ++ lineT (l.map p) := by simp [lineT]
    have h1 := h a (by simp)
    rw [e, List.map_append, List.sum_append, List.map_cons, List.sum_cons]
    rcases List.mem_cons.1 hx with rfl | hx
    · have h2 := line_le F l (fun j hj => h j (by simp [hj]))
      omega
    · have h2 := line_lt F l (fun j hj => h j (by simp [hj])) hx hlt
      omega
theorem map_lt {p : Nat → Nat} {g : Nat → Nat} {x : Nat} : ∀ (l : List Nat), (∀ j ∈ l, p j ≤ g j) → x ∈ l → p x < g x → (l.map p).sum < (l.map g).sum
  | [], _, hx, _ => by cases hx
  | a :: l, h, hx, hlt => by
    have h1 := h a (by simp)
    simp only [List.map_cons, List.sum_cons]
    have hle : ∀ (l : List Nat), (∀ j ∈ l, p j ≤ g j) → (l.map p).sum ≤ (l.map g).sum := by
      intro l
      induction l with
      | nil => intro _; simp
      | cons b l ih => intro hb; have := hb b (by simp); have := ih (fun j hj => hb j (by simp [hj])); simp only [List.map_cons, List.sum_cons]; omega
    rcases List.mem_cons.1 hx with rfl | hx
    · have := hle l (fun j hj => h j (by simp [hj]))
      omega
    · have := map_lt l (fun j hj => h j (by simp [hj])) hx hlt
      omega
theorem map_le {p : Nat → Nat} {g : Nat → Nat} : ∀ (l : List Nat), (∀ j ∈ l, p j ≤ g j) → (l.map p).sum ≤ (l.map g).sum
  | [], _ => by simp
  | a :: l, h => by
    have := h a (by simp)
    have := map_le l (fun j hj => h j (by simp [hj]))
    simp only [List.map_cons, List.sum_cons]
    omega
theorem cnt_single {l : List PT} (h : l.length = 1) (F : Nat) (c : List NodeD) : cnt F (condT c (TJ l 0)) ≤ (l.map (cnt F)).sum := by
  rw [cnt_cond, TJ_eq (by omega)]
  exact mem_sum (cnt F) l _ (List.getElem_mem (by omega))
/-- Over what is known of the kids. -/
theorem cnt_node {ss : List StepD} {f k : Nat} (h : ∀ j ∈ kidsL ss k, ∀ F, cnt F (plB ss f j) ≤ nG ss f j) : ∀ F, cnt F (plB ss (f + 1) k) ≤ nG ss (f + 1) k := by
  intro F
  rw [nG_succ, plB]
  have hl := fun F => line_le (p := plB ss f) (g := nG ss f) F (kidsL ss k) (fun j hj => piece_le (h j hj) F)
  by_cases h1 : (PJ ss k).kind = 1
  · rw [if_pos h1]
    unfold wholeT
    by_cases h2 : (lineT ((kidsL ss k).map (plB ss f))).length = 1
    · rw [if_pos h2]
      have := cnt_single h2 F (PJ ss k).cond
      have := hl F
      omega
    · rw [if_neg h2]
      cases F with
      | zero => simp [cnt]
      | succ F => rw [cnt]; have := hl F; simp only; omega
  · rw [if_neg h1]
    cases F with
    | zero => simp [cnt]
    | succ F =>
      rw [cnt]
      have := map_le (p := fun j => cnt F (plB ss f j)) (g := nG ss f) (kidsL ss k) (fun j hj => h j hj F)
      simp only [List.map_map]
      have e : ((kidsL ss k).map (cnt F ∘ plB ss f)).sum = ((kidsL ss k).map fun j => cnt F (plB ss f j)).sum := rfl
      omega
theorem cnt_le {ss : List StepD} (hp : pFault ss = 0) : ∀ (f k : Nat), k < ss.length → 8 ≤ f + deepG ss k → ∀ F, cnt F (plB ss f k) ≤ nG ss f k
  | 0, k, hk, hd, F => by have := deep_le hp hk; omega
  | f + 1, k, hk, hd, F => cnt_node (fun j hj => cnt_le hp f j (kid_mem hj).1 (by have := kid_deep hp hk hj; omega)) F
theorem cnt_up {ss : List StepD} {f k j : Nat} (h : ∀ j ∈ kidsL ss k, ∀ F, cnt F (plB ss f j) ≤ nG ss f j) (hj : j ∈ kidsL ss k) (hlt : ∀ F, cnt F (plB ss f j) < nG ss f j) : ∀ F, cnt F (plB ss (f + 1) k) < nG ss (f + 1) k := by
  intro F
  rw [nG_succ, plB]
  have hl := fun F => line_lt (p := plB ss f) (g := nG ss f) F (kidsL ss k) (fun j hj => piece_le (h j hj) F) hj (piece_lt hlt F)
  by_cases h1 : (PJ ss k).kind = 1
  · rw [if_pos h1]
    unfold wholeT
    by_cases h2 : (lineT ((kidsL ss k).map (plB ss f))).length = 1
    · rw [if_pos h2]
      have := cnt_single h2 F (PJ ss k).cond
      have := hl F
      omega
    · rw [if_neg h2]
      cases F with
      | zero => simp [cnt]; omega
      | succ F => rw [cnt]; have := hl F; simp only; omega
  · rw [if_neg h1]
    cases F with
    | zero => simp [cnt]; omega
    | succ F =>
      rw [cnt]
      have := map_lt (p := fun j => cnt F (plB ss f j)) (g := nG ss f) (kidsL ss k) (fun j hj => h j hj F) hj (hlt F)
      simp only [List.map_map]
      have e : ((kidsL ss k).map (cnt F ∘ plB ss f)).sum = ((kidsL ss k).map fun j => cnt F (plB ss f j)).sum := rfl
      omega
/-- A sequence below a sequence leaves fewer. -/
theorem piece_seq {ss : List StepD} {f j : Nat} (h : ∀ i ∈ kidsL ss j, ∀ F, cnt F (plB ss f i) ≤ nG ss f i) (h1 : (PJ ss j).kind = 1) (F : Nat) : ((pieceT (plB ss (f + 1) j)).map (cnt F)).sum < nG ss (f + 1) j := by
  have hl := fun F => line_le (p := plB ss f) (g := nG ss f) F (kidsL ss j) (fun i hi => piece_le (h i hi) F)
  rw [nG_succ, plB, if_pos h1]
  unfold wholeT
  by_cases h2 : (lineT ((kidsL ss j).map (plB ss f))).length = 1
  · rw [if_pos h2]
    refine piece_lt (fun F => ?_) F
    have := cnt_single h2 F (PJ ss j).cond
    have := hl F
    omega
  · rw [if_neg h2]
    unfold pieceT
    simp only [h1, if_true]
    have := hl F
    omega
theorem cnt_bad {ss : List StepD} (hp : pFault ss = 0) {f k : Nat} (hk : k < ss.length) (hd : 8 ≤ f + 1 + deepG ss k) (hb : bad ss k) : ∀ F, cnt F (plB ss (f + 1) k) < nG ss (f + 1) k := by
  intro F
  have hle : ∀ j ∈ kidsL ss k, ∀ F, cnt F (plB ss f j) ≤ nG ss f j := fun j hj => cnt_le hp f j (kid_mem hj).1 (by have := kid_deep hp hk hj; omega)
  have hl := fun F => line_le (p := plB ss f) (g := nG ss f) F (kidsL ss k) (fun j hj => piece_le (hle j hj) F)
  rw [nG_succ, plB, if_pos hb.1]
  unfold wholeT
  by_cases h2 : (lineT ((kidsL ss k).map (plB ss f))).length = 1
  · rw [if_pos h2]
    have := cnt_single h2 F (PJ ss k).cond
    have := hl F
    omega
  · rw [if_neg h2]
    have hj : ∃ j ∈ kidsL ss k, (PJ ss j).kind = 1 := by
      rcases hb.2 with h3 | h3
      · obtain ⟨a, ha⟩ := List.length_eq_one_iff.1 h3
        refine ⟨a, by rw [ha]; simp, ?_⟩
        by_cases h4 : (PJ ss a).kind = 1
        · exact h4
        · refine absurd ?_ h2
          rw [ha]
          simp only [List.map_cons, List.map_nil, lineT, List.flatMap_cons, List.flatMap_nil, List.append_nil]
          unfold pieceT
          rw [plB_kind h4, if_neg h4]
          rfl
      · exact h3
    obtain ⟨j, hj, h4⟩ := hj
    have hf : ∃ f', f = f' + 1 := by
      have h5 := kid_deep hp hk hj
      have h6 := deep_le hp (kid_mem hj).1
      exact ⟨f - 1, by omega⟩
    obtain ⟨f', rfl⟩ := hf
    have hjd := kid_deep hp hk hj
    have h7 := fun F => line_lt (p := plB ss (f' + 1)) (g := nG ss (f' + 1)) F (kidsL ss k) (fun j hj => piece_le (hle j hj) F) hj (piece_seq (fun i hi => cnt_le hp f' i (kid_mem hi).1 (by have := kid_deep hp (kid_mem hj).1 hi; omega)) h4 F)
    cases F with
    | zero => simp [cnt]; omega
    | succ F => rw [cnt]; have := h7 F; simp only; omega
theorem bad_up {ss : List StepD} (hp : pFault ss = 0) : ∀ (k f : Nat), k < ss.length → f + deepG ss k = 9 → (∀ F, cnt F (plB ss f k) < nG ss f k) → ∀ F, cnt F (plB ss 8 0) < nG ss 8 0 := by
  intro k
  induction k using Nat.strongRecOn with
  | ind k ih =>
    intro f hk hf h
    by_cases h0 : k = 0
    · subst h0
      have : deepG ss 0 = 1 := rfl
      obtain rfl : f = 8 := by omega
      exact h
    · have hon := on_path hp hk (by omega)
      have hpar := par_lt (first_all (of_p hp).2.1 hk)
      have hnn := Tr.on_nonneg hon
      obtain ⟨u, hu⟩ : ∃ u : Nat, (PJ ss k).parent = (u : Int) := ⟨(PJ ss k).parent.toNat, by omega⟩
      have hul : u < k := by omega
      have hm : k ∈ kidsL ss u := by unfold kidsL kidsN; rw [List.mem_filter]; exact ⟨List.mem_range.2 hk, by simp [hu]⟩
      have hd := kid_deep hp (show u < ss.length by omega) hm
      exact ih u hul (f + 1) (by omega) (by omega) (cnt_up (fun j hj => cnt_le hp f j (kid_mem hj).1 (by have := kid_deep hp (show u < ss.length by omega) hj; omega)) hm h)
/-- The process made plain. -/
def plainL (ss : List StepD) : List StepD := lst 9 [] (plB ss 8 0) (-1)
theorem plain_len {ss : List StepD} (hp : pFault ss = 0) : (plainL ss).length ≤ ss.length := by
  have h0 : 0 < ss.length := by have := of_p hp; omega
  have h := cnt_le hp 8 0 h0 (by omega) 9
  unfold plainL
  rw [lst_len, List.length_nil, Nat.zero_add]
  have e := cnt_gT hp
  unfold nG at h
  omega
theorem plain_good {ss : List StepD} (hp : pFault ss = 0) (h : ∀ k, k < ss.length → ¬ bad ss k) : plainL ss = ss := by
  have h0 : 0 < ss.length := by have := of_p hp; omega
  unfold plainL
  rw [plain_same h 8 0 h0]
  exact whole_gT 1 hp
theorem plain_bad {ss : List StepD} (hp : pFault ss = 0) {k : Nat} (hk : k < ss.length) (hb : bad ss k) : plainL ss ≠ ss := by
  intro e
  have h1 := congrArg List.length e
  unfold plainL at h1
  rw [lst_len, List.length_nil, Nat.zero_add] at h1
  have hd := deep_le hp hk
  obtain ⟨f, hf⟩ : ∃ f, f + 1 + deepG ss k = 9 := ⟨8 - deepG ss k, by omega⟩
  have h2 := bad_up hp k (f + 1) hk hf (cnt_bad hp hk (by omega) hb) 9
  have h3 := cnt_gT hp
  unfold nG at h2
  omega
/-! ### what holds of all steps -/
def AllT (Q : StepD → Prop) : Nat → PT → Prop
  | 0, t => Q t.s
  | f + 1, t => Q t.s ∧ ∀ k ∈ t.kids, AllT Q f k
theorem AllT.top {Q : StepD → Prop} : ∀ {f : Nat} {t : PT}, AllT Q f t → Q t.s
  | 0, t, h => h
  | f + 1, t, h => h.1
theorem all_cond {Q : StepD → Prop} {c : List NodeD} (hc : ∀ s, Q s → Q { s with cond := c }) {t : PT} : ∀ {F : Nat}, AllT Q F t → AllT Q F (condT c t)
  | 0, h => by
    unfold condT
    split
    · exact hc _ h
    · exact h
  | F + 1, h => by
    unfold condT
    split
    · exact ⟨hc _ h.1, h.2⟩
    · exact h
theorem all_line {Q : StepD → Prop} {l : List PT} (h : ∀ x ∈ l, ∀ F, AllT Q F x) : ∀ x ∈ lineT l, ∀ F, AllT Q F x := by
  intro x hx F
  obtain ⟨b, hb, hx⟩ := List.mem_flatMap.1 hx
  unfold pieceT at hx
  split at hx
  · exact (h b hb (F + 1)).2 x hx
  · rw [List.mem_singleton] at hx
    rw [hx]
    exact h b hb F
theorem all_plB {Q : StepD → Prop} {ss : List StepD} (h1 : ∀ k, Q (PJ ss k)) (h2 : ∀ k s, Q s → Q { s with cond := (PJ ss k).cond }) : ∀ (f k F : Nat), AllT Q F (plB ss f k)
  | 0, k, 0 => h1 k
  | 0, k, F + 1 => ⟨h1 k, fun x hx => by cases hx⟩
  | f + 1, k, F => by
    have hm : ∀ x ∈ (kidsL ss k).map (plB ss f), ∀ F, AllT Q F x := fun x hx F => by
      obtain ⟨j, _, rfl⟩ := List.mem_map.1 hx
      exact all_plB h1 h2 f j F
    rw [plB]
    by_cases hk : (PJ ss k).kind = 1
    · rw [if_pos hk]
      unfold wholeT
      by_cases h3 : (lineT ((kidsL ss k).map (plB ss f))).length = 1
      · rw [if_pos h3, TJ_eq (by omega)]
        exact all_cond (h2 k) (all_line hm _ (List.getElem_mem (by omega)) F)
      · rw [if_neg h3]
        cases F with
        | zero => exact h1 k
        | succ F => exact ⟨h1 k, fun x hx => all_line hm x hx F⟩
    · rw [if_neg hk]
      cases F with
      | zero => exact h1 k
      | succ F => exact ⟨h1 k, fun x hx => hm x hx F⟩
theorem all_lst {Q : StepD → Prop} (hq : ∀ s p, Q s → Q { s with parent := p }) : ∀ (f : Nat) (acc : List StepD) (t : PT) (par : Int), (∀ s ∈ acc, Q s) → AllT Q f t → ∀ s ∈ lst f acc t par, Q s
  | 0, acc, t, par, h, _ => h
  | f + 1, acc, t, par, h, ht => by
    have hfold : ∀ (ks : List PT) (a : List StepD), (∀ s ∈ a, Q s) → (∀ k ∈ ks, AllT Q f k) → ∀ s ∈ ks.foldl (fun a b => lst f a b (acc.length : Int)) a, Q s := by
      intro ks
      induction ks with
      | nil => intro a ha _; exact ha
      | cons b ks ih =>
        intro a ha hks
        rw [List.foldl_cons]
        exact ih _ (all_lst hq f a b _ ha (hks b (by simp))) (fun k hk => hks k (by simp [hk]))
    rw [lst]
    refine hfold t.kids _ (fun s hs => ?_) ht.2
    rcases List.mem_append.1 hs with hs | hs
    · exact h s hs
    · rw [List.mem_singleton] at hs
      rw [hs]
      exact hq _ _ ht.1
theorem PJ_small {n : Int} (hn : 0 ≤ n) {ss : List StepD} (h : ∀ s ∈ ss, St.Small1 n s) (k : Nat) : St.Small1 n (PJ ss k) := by
  by_cases hk : k < ss.length
  · rw [PJ_eq hk]; exact h _ (List.getElem_mem hk)
  · unfold PJ
    rw [List.getElem?_eq_none (by omega)]
    exact ⟨hn, hn, hn⟩
theorem small_plB {n : Int} (hn : 0 ≤ n) {ss : List StepD} (h : ∀ s ∈ ss, St.Small1 n s) (f k F : Nat) : AllT (St.Small1 n) F (plB ss f k) :=
  all_plB (PJ_small hn h) (fun k s hs => ⟨hs.1, (PJ_small hn h k).2.1, hs.2.2⟩) f k F
theorem small_plain {n : Int} (hn : 0 ≤ n) {ss : List StepD} (h : ∀ s ∈ ss, St.Small1 n s) : ∀ s ∈ plainL ss, St.Small1 n s :=
  all_lst (fun s p hs => hs) 9 [] _ _ (fun s hs => by cases hs) (small_plB hn h 8 0 9)
end Pl
end Go.Proofs.YtedgobdnjemegaaDoor
