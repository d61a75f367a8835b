/- The steps with their places, as the program lays them out. -/
import Derived.Test.YtccklgopcjilcaaGreatDoorJCT20
import Derived.Laws.OwnMore
namespace Go.Proofs.YtccklgopcjilcaaGreatDoor
open Go.RowKit
set_option linter.unusedVariables false
namespace Pf
open Ex (hid inR eFault typeCode typeVal)
open Nd (NodeD)
open St (StepD)
open Tr (Chain cutTo onPath top nf ElemD)
open Pt (TreeAt Br flat flat_succ flat_len flat_get kidVals infoI64 info_parts)
def pvals (T : Nat → Br) (j : Nat) : List Value := [.int .i64 (j : Int), .int .i64 ((T j).deep : Int), (T j).kv, .int .i64 (T j).kind, .int .i64 (T j).par, .string (T j).name, .int .i64 (T j).arg, (T j).vc, (T j).ve]
theorem pvals_len (T : Nat → Br) (j : Nat) : (pvals T j).length = 9 := rfl
theorem infoPlaced : (Tryz.prog.info? 231).map (fun i => (i.zero, i.size, i.bytes)) = some (some (.agg #[.int .i64 0, .int .i64 0, .slice none 0 0, .int .i64 0, .int .i64 0, .string { data := #[] }, .int .i64 0, .slice none 0 0, .slice none 0 0]), 9, 128) := by kernel_rfl
theorem kv_slice {w : World} {B n : Nat} {v : Value} {T : Nat → Br} (h : TreeAt w B v n T) {j : Nat} (hj : j < n) : ∃ a c, (T j).kv = .slice a (T j).kids.length c := by
  rcases (h.kids j hj).2 with ⟨e1, e2⟩ | ⟨x, y, _, e1, _⟩
  · exact ⟨none, 0, by rw [e1, e2]⟩
  · exact ⟨_, _, e1⟩
set_option maxRecDepth 100000 in
set_option maxHeartbeats 8000000 in
theorem placeSteps (T : Nat → Br) (B n : Nat) (v : Value) (w : World) (hn : n ≤ 24) (ht : TreeAt w B v n T) (hvs : ∀ j, j < n → (∃ a c e, (T j).vc = .slice a c e) ∧ (∃ a c e, (T j).ve = .slice a c e)) :
    Calls Tryz.prog 160 #[v] w fun e w' => (∃ u, e = .returned u ∧ w'.ownsRow w.heap.size 231 9 u n (flat (pvals T) n)) ∧ Below w.heap.size w w' := by
  obtain ⟨a, cap, rfl⟩ := ht.slice
  have HT := hid ht
  have HVS := hid hvs
  clear ht hvs
  obtain ⟨i0, hi0, hz0, hz1, hz2⟩ := info_parts infoPlaced
  go_enter Tryz.func160, Tryz.ntmps160
  go_wp2
  go_loopw [3, 4, 5, 6, 9] (fun o _ _ _ x wr => ∃ j : Nat, x = .int .i64 j ∧ j ≤ n ∧ (∃ a5 c5, o = .slice a5 j c5) ∧ Hid (wr.ownsRow w.heap.size 231 9 o j (flat (pvals T) j)) ∧ Below w.heap.size w wr) (fun _ _ _ _ x _ => n - (intOf x).toNat)
  case atStart => exact ⟨0, rfl, Nat.zero_le _, ⟨_, _, rfl⟩, World.ownsRow_nil w _ _ 9, Below.refl _ _⟩
  case round =>
    obtain ⟨j, rfl, hj, ⟨a5, c5, rfl⟩, HO, hbel⟩ := hrel
    have hz := hbel.size
    by_cases hlt : j < n
    · obtain ⟨g, rfl, _, hBg, hg, e0, e1, e2, e3, e4, e5, e6, e7, e8, _⟩ := (HT.out.below hbel).at hlt
      obtain ⟨ak, ck, hkv⟩ := kv_slice HT.out hlt
      obtain ⟨⟨ac, nc, cc, hvc⟩, ⟨ae, ne, ce, hve⟩⟩ := HVS.out j hlt
      have HS : Hid (flat (pvals T) (j + 1) = flat (pvals T) j ++ pvals T j) := hid (flat_succ _ _)
      have HPV : Hid (pvals T j = [.int .i64 (j : Int), .int .i64 ((T j).deep : Int), .slice ak (T j).kids.length ck, .int .i64 (T j).kind, .int .i64 (T j).par, .string (T j).name, .int .i64 (T j).arg, .slice ac nc cc, .slice ae ne ce]) := hid (by unfold pvals; rw [hkv, hvc, hve])
      rw [hkv] at e8
      rw [hvc] at e4
      rw [hve] at e5
      clear hkv hvc hve
      have q1 : (j : Int) < (n : Int) := by omega
      have hown := HO.out
      generalize (T j).kind = kd at *
      generalize (T j).par = pr at *
      generalize (T j).name = nm at *
      generalize (T j).arg = ag at *
      generalize (T j).deep = dp at *
      generalize (T j).kids.length = nk at *
      go_wp2_with (at_builtin; go_must (refine wpList_append_own _ rfl _ _ 124 rfl w.heap.size 231 i0 (.agg #[.int .i64 0, .int .i64 0, .slice none 0 0, .int .i64 0, .int .i64 0, .string { data := #[] }, .int .i64 0, .slice none 0 0, .slice none 0 0]) 9 128 Tryz.underlying124 hi0 hz0 hz1 hz2 rfl (by decide) _ _ _ rfl (((hown.alloc _).alloc _).alloc _) ⟨wr.heap.size + 1 + 1, 0, none⟩ 1 1 [.int .i64 (j : Int), .int .i64 (dp : Int), .slice ak nk ck, .int .i64 kd, .int .i64 pr, .string nm, .int .i64 ag, .slice ac nc cc, .slice ae ne ce] rfl rfl (Pt.cell_nine _ _ (by simp) _ _ _ _ _ _ _ _ _ _) (by simp [Value.oneCell']) (by unfold maxLen; omega) (by omega) (by simp; omega) ?_); intro v' w2 hown' hgrow _; obtain ⟨g9, c9, rfl⟩ := ownsRow_succ hown')
      have hB2 : Below w.heap.size w w2 := (((hbel.alloc hz _).alloc (by simp; omega) _).alloc (by simp; omega) _).grown hgrow (by simp; omega) (fun b e => (Pt.own_lt hown e).1)
      refine ⟨⟨j + 1, by simp, by omega, ⟨some ⟨g9, 0, none⟩, c9, rfl⟩, hid ?_, hB2⟩, by simp [intOf]; omega⟩
      rw [HS.out, HPV.out]
      exact hown'
    · obtain rfl : j = n := by omega
      go_wp2
      go_ret
      exact ⟨⟨_, rfl, HO.out⟩, hbel⟩
/-- A list of places that can be read. -/
def KidsAt (w : World) (v : Value) (l : List Nat) : Prop := ∃ B, w.ownsRow B 2 1 v l.length (kidVals l)
theorem KidsAt.below {w w' : World} {v : Value} {l : List Nat} (h : KidsAt w v l) (hb : Below w.heap.size w w') : KidsAt w' v l := by
  obtain ⟨B, h⟩ := h
  exact ⟨B, h.kept (row := none) ⟨hb.os, hb.tape, hb.output, hb.size, fun k hk _ => hb.block k hk⟩ (by cases v.ownBlock <;> simp)⟩
theorem KidsAt.slice {w : World} {v : Value} {l : List Nat} (h : KidsAt w v l) : ∃ a cap, v = .slice a l.length cap := by
  obtain ⟨B, _, ⟨rfl, h0⟩ | ⟨g, cap, cur, rfl, _⟩⟩ := h
  · exact ⟨none, 0, by rw [h0]⟩
  · exact ⟨_, _, rfl⟩
/-- The cells of a step with its place. -/
structure PCells (w : World) (ss : List StepD) (j : Nat) (h : j < ss.length) (kv vc ve : Value) : Prop where
  kids : KidsAt w kv (kidsL ss j)
  cond : Nd.At w 0 vc ss[j].cond
  expr : Nd.At w 0 ve ss[j].expr
theorem PCells.below {w w' : World} {ss : List StepD} {j : Nat} {h : j < ss.length} {kv vc ve : Value} (p : PCells w ss j h kv vc ve) (hb : Below w.heap.size w w') : PCells w' ss j h kv vc ve := ⟨p.kids.below hb, p.cond.below hb, p.expr.below hb⟩
def PAt (w : World) (ss : List StepD) (u : Value) : Prop := ∃ g cap, u = .slice (some ⟨g, 0, none⟩) ss.length cap ∧ g < w.heap.size ∧ ∀ j (h : j < ss.length), ∃ kv vc ve, w.cell? ⟨g, j * 9, none⟩ = some (.int .i64 (j : Int)) ∧ w.cell? ⟨g, j * 9 + 1, none⟩ = some (.int .i64 ((path ss (j + 1)).length : Int)) ∧ w.cell? ⟨g, j * 9 + 2, none⟩ = some kv ∧ w.cell? ⟨g, j * 9 + 3, none⟩ = some (.int .i64 ss[j].kind) ∧ w.cell? ⟨g, j * 9 + 4, none⟩ = some (.int .i64 ss[j].parent) ∧ w.cell? ⟨g, j * 9 + 5, none⟩ = some (.string ss[j].name) ∧ w.cell? ⟨g, j * 9 + 6, none⟩ = some (.int .i64 ss[j].arg) ∧ w.cell? ⟨g, j * 9 + 7, none⟩ = some vc ∧ w.cell? ⟨g, j * 9 + 8, none⟩ = some ve ∧ PCells w ss j h kv vc ve
theorem PAt.below {w w' : World} {ss : List StepD} {u : Value} (h : PAt w ss u) (hb : Below w.heap.size w w') : PAt w' ss u := by
  obtain ⟨g, cap, rfl, hg, hc⟩ := h
  refine ⟨g, cap, rfl, Nat.lt_of_lt_of_le hg hb.size, fun j hj => ?_⟩
  obtain ⟨kv, vc, ve, h0, h1, h2, h3, h4, h5, h6, h7, h8, hp⟩ := hc j hj
  have e : ∀ o, w'.cell? ⟨g, o, none⟩ = w.cell? ⟨g, o, none⟩ := fun o => hb.cell (p := ⟨g, o, none⟩) hg
  exact ⟨kv, vc, ve, (e _).trans h0, (e _).trans h1, (e _).trans h2, (e _).trans h3, (e _).trans h4, (e _).trans h5, (e _).trans h6, (e _).trans h7, (e _).trans h8, hp.below hb⟩
theorem PAt.of {w w' w0 : World} {B : Nat} {ss : List StepD} {v u : Value} {T : Nat → Br} (hn : 0 < ss.length) (ht : TreeAt w B v ss.length T) (hi : TreeIs w0 ss ss.length T) (h0 : Below w0.heap.size w0 w) (hb : Below w.heap.size w w') (ho : w'.ownsRow w.heap.size 231 9 u ss.length (flat (pvals T) ss.length)) : PAt w' ss u := by
  obtain ⟨_, ⟨_, h1⟩ | ⟨g, cap, cur, rfl, hbg, hg, hle, hm, hs, hcur⟩⟩ := ho
  · omega
  · have h0' := h0.trans (hb.mono h0.size)
    refine ⟨g, cap, rfl, (Array.getElem?_eq_some_iff.1 hg).1, fun j hj => ?_⟩
    have hget : ∀ c, c < 9 → w'.cell? ⟨g, j * 9 + c, none⟩ = (pvals T j)[c]? := fun c hc => by
      have h2 := flat_get (f := pvals T) (fun j => pvals_len T j) hj hc
      rw [← hcur, List.getElem?_take, if_pos (by omega)] at h2
      simp only [World.cell?, hg, Option.isSome_none, Bool.false_eq_true, if_false]
      simpa using h2
    obtain ⟨v1, v2, v3, v4⟩ := hi.val j hj hj
    refine ⟨(T j).kv, (T j).vc, (T j).ve, hget 0 (by omega), ?_, hget 2 (by omega), ?_, ?_, ?_, ?_, hget 7 (by omega), hget 8 (by omega), ⟨⟨B, ?_⟩, (hi.vc j hj hj).below h0', (hi.ve j hj hj).below h0'⟩⟩
    · rw [← hi.deep j hj]; exact hget 1 (by omega)
    · rw [← v1]; exact hget 3 (by omega)
    · rw [← v2]; exact hget 4 (by omega)
    · rw [← v3]; exact hget 5 (by omega)
    · rw [← v4]; exact hget 6 (by omega)
    · have hk := hi.kids j hj
      unfold kidsL
      rw [← hk]
      exact (ht.kids j hj).kept (row := none) ⟨hb.os, hb.tape, hb.output, hb.size, fun k hk _ => hb.block k hk⟩ (by cases (T j).kv.ownBlock <;> simp)
set_option maxRecDepth 100000 in
set_option maxHeartbeats 2000000 in
theorem hasKids (x0 x1 : Int) (a : Option Addr) (n cap : Nat) (lo hi : Int) (w : World) (hn : n ≤ 1048576) :
    Calls Tryz.prog 195 #[.agg #[.int .i64 x0, .int .i64 x1, .slice a n cap], .int .i64 lo, .int .i64 hi] w fun e w' => e = .returned (.bool (decide (lo ≤ (n : Int)) && decide ((n : Int) ≤ hi))) ∧ Below w.heap.size w w' := by
  have hB : Below w.heap.size w (w.alloc (.cells #[.int .i64 x0, .int .i64 x1, .slice a n cap] 229)) := (Below.refl _ w).alloc (Nat.le_refl _) _
  by_cases h1 : lo ≤ (n : Int)
  · have HV : Hid ((decide (lo ≤ (n : Int)) && decide ((n : Int) ≤ hi)) = decide ((n : Int) ≤ hi)) := hid (by simp [h1])
    rw [HV.out]
    clear HV
    go_enter Tryz.func195, Tryz.ntmps195
    go_wp2
    go_ret
    exact ⟨rfl, hB⟩
  · have HV : Hid ((decide (lo ≤ (n : Int)) && decide ((n : Int) ≤ hi)) = false) := hid (by simp [h1])
    rw [HV.out]
    clear HV
    go_enter Tryz.func195, Tryz.ntmps195
    go_wp2
    go_ret
    exact ⟨rfl, hB⟩
theorem many_eq {k : Int} {n : Nat} (h : inR k 1 8 = true) (hn : n ≤ 24) : (decide ((ruleD k).lk ≤ (n : Int)) && decide ((n : Int) ≤ (ruleD k).mx)) = manyOk k n := by
  rcases kinds h with rfl | rfl | rfl | rfl | rfl | rfl | rfl | rfl
  · have e : manyOk 1 n = decide (1 ≤ n) := rfl
    rw [e, rule1, Bool.eq_iff_iff]
    simp only [Bool.and_eq_true, decide_eq_true_eq]
    omega
  · have e : manyOk 2 n = decide (n = 0) := rfl
    rw [e, rule2, Bool.eq_iff_iff]
    simp only [Bool.and_eq_true, decide_eq_true_eq]
    omega
  · have e : manyOk 3 n = decide (2 ≤ n) := rfl
    rw [e, rule3, Bool.eq_iff_iff]
    simp only [Bool.and_eq_true, decide_eq_true_eq]
    omega
  · have e : manyOk 4 n = decide (2 ≤ n) := rfl
    rw [e, rule4, Bool.eq_iff_iff]
    simp only [Bool.and_eq_true, decide_eq_true_eq]
    omega
  · have e : manyOk 5 n = decide (n = 0) := rfl
    rw [e, rule5, Bool.eq_iff_iff]
    simp only [Bool.and_eq_true, decide_eq_true_eq]
    omega
  · have e : manyOk 6 n = decide (n = 0) := rfl
    rw [e, rule6, Bool.eq_iff_iff]
    simp only [Bool.and_eq_true, decide_eq_true_eq]
    omega
  · have e : manyOk 7 n = decide (n = 0) := rfl
    rw [e, rule7, Bool.eq_iff_iff]
    simp only [Bool.and_eq_true, decide_eq_true_eq]
    omega
  · have e : manyOk 8 n = decide (n = 2) := rfl
    rw [e, rule8, Bool.eq_iff_iff]
    simp only [Bool.and_eq_true, decide_eq_true_eq]
    omega
theorem last_row {w : World} {B : Nat} {u : Value} {l : List Nat} (h : w.ownsRow B 2 1 u l.length (kidVals l)) (h0 : l ≠ []) : ∃ g cap x, u = .slice (some ⟨g, 0, none⟩) l.length cap ∧ l[l.length - 1]? = some x ∧ w.cell? ⟨g, l.length - 1, none⟩ = some (.int .i64 (x : Int)) ∧ g < w.heap.size := by
  have hl : 0 < l.length := List.length_pos_iff.2 h0
  obtain ⟨_, ⟨_, h1⟩ | ⟨g, cap, cur, rfl, hbg, hg, hle, hm, hs, ht⟩⟩ := h
  · omega
  · have hx : l[l.length - 1]? = some l[l.length - 1] := List.getElem?_eq_getElem (by omega)
    refine ⟨g, cap, l[l.length - 1], rfl, hx, ?_, (Array.getElem?_eq_some_iff.1 hg).1⟩
    have : cur[l.length - 1]? = some (.int .i64 (l[l.length - 1] : Int)) := by
      have h2 := congrArg (·[l.length - 1]?) ht
      simp only [kidVals, Nat.mul_one, List.getElem?_take, List.getElem?_map, hx, Option.map_some, show l.length - 1 < l.length by omega, if_true] at h2
      simpa using h2
    simp [World.cell?, hg, this]
set_option maxRecDepth 100000 in
set_option maxHeartbeats 2000000 in
theorem hasLastKid (x0 x1 : Int) (kv : Value) (l : List Nat) (i : Nat) (w : World) (hn : l.length ≤ 24) (hk : KidsAt w kv l) :
    Calls Tryz.prog 234 #[.agg #[.int .i64 x0, .int .i64 x1, kv], .int .i64 (i : Int)] w fun e w' => e = .returned (.bool (lastIs l i)) ∧ Below w.heap.size w w' := by
  by_cases h0 : l = []
  · obtain ⟨a, cap, rfl⟩ := hk.slice
    have HV : Hid (lastIs l i = false) := hid (by rw [h0]; rfl)
    have hl : l.length = 0 := by rw [h0]; rfl
    clear hk h0
    generalize l.length = m at *
    subst hl
    go_enter Tryz.func234, Tryz.ntmps234
    go_wp2
    go_ret
    exact ⟨by rw [HV.out]; rfl, (Below.refl _ w).alloc (Nat.le_refl _) _⟩
  · obtain ⟨B, ho⟩ := hk
    obtain ⟨g, cap, x, rfl, hx, hcx, hg⟩ := last_row ho h0
    have hpos : 0 < l.length := List.length_pos_iff.2 h0
    have HV : Hid (lastIs l i = ((x : Int) == (i : Int))) := hid (by
      unfold lastIs
      rw [List.getLast?_eq_getElem?, hx]
      by_cases e : x = i
      · simp [e]
      · have h8 : (some x == some i) = false := by simp [e]
        have h9 : ((x : Int) == (i : Int)) = false := beq_eq_false_iff_ne.2 (by omega)
        rw [h8, h9])
    have hcx2 : (w.alloc (.cells #[.int .i64 x0, .int .i64 x1, .slice (some ⟨g, 0, none⟩) l.length cap] 229)).cell? ⟨g, l.length - 1, none⟩ = some (.int .i64 (x : Int)) := (((Below.refl w.heap.size w).alloc (Nat.le_refl _) (.cells #[.int .i64 x0, .int .i64 x1, .slice (some ⟨g, 0, none⟩) l.length cap] 229)).cell (p := ⟨g, l.length - 1, none⟩) hg).trans hcx
    clear ho hx h0
    generalize l.length = m at *
    have hm : ((m : Int) - 1) = ((m - 1 : Nat) : Int) := by omega
    have q0 : (0 : Int) < (m : Int) := by omega
    go_enter Tryz.func234, Tryz.ntmps234
    go_wp2
    go_ret
    exact ⟨by rw [HV.out]; rfl, (Below.refl _ w).alloc (Nat.le_refl _) _⟩
end Pf
end Go.Proofs.YtccklgopcjilcaaGreatDoor
