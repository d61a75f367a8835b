/- The law's own helpers over lists of texts: whether two are the same, marks written into one, and whether it still holds them. -/
import Derived.Test.YtbnpejijfnigaagCut4
import Derived.Deep.QuietTactic
import Derived.BigQuiet
import Derived.Deep.RegionHeld3
import Derived.Deep.RegionWith
namespace Go.Proofs.Ytbnpejijfnigaag
open Go.Shelf Go.RowKit
set_option linter.unusedVariables false
namespace Cut
/-- A slice of texts that lies in memory. -/
def RowAt (w : World) (v : Value) (ts : List (List UInt8)) : Prop :=
  (v = .slice none 0 0 ∧ ts = []) ∨ ∃ g cap, v = .slice (some ⟨g, 0, none⟩) ts.length cap ∧ g < w.heap.size ∧ ∀ i t, ts[i]? = some t → w.cell? ⟨g, i, none⟩ = some (strv t)
theorem RowAt.slice {w : World} {v : Value} {ts : List (List UInt8)} (h : RowAt w v ts) : ∃ a cap, v = .slice a ts.length cap := by
  rcases h with ⟨rfl, rfl⟩ | ⟨g, cap, rfl, _⟩
  · exact ⟨none, 0, rfl⟩
  · exact ⟨_, _, rfl⟩
theorem RowAt.at {w : World} {v : Value} {ts : List (List UInt8)} (h : RowAt w v ts) {i : Nat} (hi : i < ts.length) : ∃ g cap, v = .slice (some ⟨g, 0, none⟩) ts.length cap ∧ g < w.heap.size ∧ w.cell? ⟨g, i, none⟩ = some (strv ts[i]) := by
  rcases h with ⟨rfl, rfl⟩ | ⟨g, cap, rfl, hg, hc⟩
  · simp at hi
  · exact ⟨g, cap, rfl, hg, hc i _ (List.getElem?_eq_getElem hi)⟩
theorem RowAt.below {w w' : World} {v : Value} {ts : List (List UInt8)} (h : RowAt w v ts) (hb : Below w.heap.size w w') : RowAt w' v ts := by
  rcases h with h | ⟨g, cap, rfl, hg, hc⟩
  · exact .inl h
  · exact .inr ⟨g, cap, rfl, Nat.lt_of_lt_of_le hg hb.size, fun i t ht => (hb.cell (p := ⟨g, i, none⟩) hg).trans (hc i t ht)⟩
theorem RowAt.of {w : World} {base : Nat} {v : Value} {ts : List (List UInt8)} (h : w.ownsRow base 9 1 v ts.length (ts.map strv)) : RowAt w v ts := by
  obtain ⟨hl, ⟨rfl, h0⟩ | ⟨g, cap, cur, rfl, hbg, hg, hle, hm, hs, ht⟩⟩ := h
  · exact .inl ⟨rfl, List.length_eq_zero_iff.1 h0⟩
  · refine .inr ⟨g, cap, rfl, (Array.getElem?_eq_some_iff.1 hg).1, fun i t hti => ?_⟩
    have hi : i < ts.length := (List.getElem?_eq_some_iff.1 hti).1
    have : cur[i]? = some (strv t) := by
      have h2 := congrArg (·[i]?) ht
      simp only [Nat.mul_one, List.getElem?_take, List.getElem?_map, hti, Option.map_some, hi, if_true] at h2
      simpa using h2
    simp [World.cell?, hg, this]
theorem below_drewN {B : Nat} {a w : World} (h : Below B a w) (n : Nat) : Below B a (w.drewN n) := ⟨h.os, h.tape, h.output, h.size, h.block⟩
theorem strv_ne (a : List UInt8) : ((ByteArray.mk a.toArray).toList != (ByteArray.mk a.toArray).toList) = false := by simp
set_option maxHeartbeats 2000000 in
theorem eqS (v1 v2 : Value) (ts : List (List UInt8)) (w : World) (hn : ts.length ≤ 1048576) (h1 : RowAt w v1 ts) (h2 : RowAt w v2 ts) :
    Calls Try.prog 15 #[v1, v2] w fun e w' => e = .returned (.bool true) ∧ Below w.heap.size w w' := by
  obtain ⟨a1, c1, rfl⟩ := h1.slice
  obtain ⟨a2, c2, rfl⟩ := h2.slice
  have H1 : Hid (RowAt w (.slice a1 ts.length c1) ts) := h1
  have H2 : Hid (RowAt w (.slice a2 ts.length c2) ts) := h2
  clear h1 h2
  have hb : ((ts.length : Int) != (ts.length : Int)) = false := by simp
  go_enter Try.func15, Try.ntmps15
  go_wp2
  go_loopw [5] (fun i wr => ∃ k : Nat, i = .int .i64 k ∧ k ≤ ts.length ∧ Below w.heap.size w wr) (fun i _ => ts.length - (intOf i).toNat)
  case atStart => exact ⟨0, rfl, Nat.zero_le _, Below.refl _ _⟩
  case round =>
    obtain ⟨k, rfl, hk, hbel⟩ := hrel
    by_cases hlt : k < ts.length
    · obtain ⟨g1, d1, e1, hg1, hc1⟩ := (H1.out.below hbel).at hlt
      obtain ⟨g2, d2, e2, hg2, hc2⟩ := (H2.out.below hbel).at hlt
      cases e1
      cases e2
      generalize hts : ts[k] = t at *
      clear hts
      unfold strv at hc1 hc2
      have hne := strv_ne t
      have q1 : (k : Int) < (ts.length : Int) := by omega
      go_wp2
      go_quiet (fail)
      go_wp2
      exact ⟨⟨k + 1, by simp, by omega, below_drewN hbel nq⟩, by simp [intOf]; omega⟩
    · go_wp2
      go_ret
      exact ⟨rfl, hbel⟩
set_option maxHeartbeats 1000000 in
theorem eqT (c : Int) (v1 v2 : Value) (ts : List (List UInt8)) (w : World) (hn : ts.length ≤ 1048576) (h1 : RowAt w v1 ts) (h2 : RowAt w v2 ts) :
    Calls Try.prog 7 #[.agg #[.int .i64 c, v1], .agg #[.int .i64 c, v2]] w fun e w' => e = .returned (.bool true) ∧ Below w.heap.size w w' := by
  obtain ⟨a1, c1, rfl⟩ := h1.slice
  obtain ⟨a2, c2, rfl⟩ := h2.slice
  have H1 : Hid (RowAt w (.slice a1 ts.length c1) ts) := h1
  have H2 : Hid (RowAt w (.slice a2 ts.length c2) ts) := h2
  clear h1 h2
  have hb : (c != c) = false := by simp
  go_enter Try.func7, Try.ntmps7
  go_wp2_with fail
  have hB : Below w.heap.size w ((w.alloc (.cells #[.int .i64 c, .slice a1 ts.length c1] 24)).alloc (.cells #[.int .i64 c, .slice a2 ts.length c2] 24)) := ((Below.refl _ w).alloc (Nat.le_refl _) _).alloc (by simp) _
  refine (eqS _ _ ts _ hn (H1.out.below hB) (H2.out.below hB)).mono ?_
  rintro e w1 ⟨rfl, hb1⟩
  go_wp2
  go_ret
  exact ⟨rfl, hB.trans (hb1.mono (by simp; omega))⟩

def dg (k : Nat) : UInt8 := (48 + k % 10).toUInt8
def digs : Nat → Nat → List UInt8 → List UInt8
  | 0, _, o => o
  | f + 1, k, o => if k = 0 then o else digs f (k / 10) (dg k :: o)
/-- The mark of a number. -/
def mtx (k : Nat) : List UInt8 := 109 :: digs k k []
theorem dg_nat (j : Nat) : ((dg j).toNat : Int) = 48 + (j : Int) % 10 := by
  unfold dg
  have h : (48 + j % 10) < 256 := by omega
  rw [Nat.toUInt8, UInt8.toNat_ofNat', Nat.mod_eq_of_lt h]
  push_cast
  rfl
theorem conv1 (j : Nat) (w : World) : Sem.run Try.prog (convert 43 9 (.slice (some ⟨w.heap.size, 0, none⟩) 1 1)) (w.alloc (.cells #[.int .u8 (48 + (j : Int) % 10)] 5)) = .ok (.string ⟨[dg j].toArray⟩) (w.alloc (.cells #[.int .u8 (48 + (j : Int) % 10)] 5)) := by
  refine run_convert_bytes_back (P := Try.prog) _ 43 9 5 ⟨w.heap.size, 0, none⟩ 1 [dg j] Try.underlying43 Try.underlying5 Try.underlying9 ?_
  intro i hi
  obtain rfl : i = 0 := by simpa using hi
  simp [Addr.add, dg_nat]
theorem app_one (c : UInt8) (l : List UInt8) : Value.string (ByteArray.mk [c].toArray ++ ByteArray.mk l.toArray) = .string ⟨(c :: l).toArray⟩ := by
  apply congrArg Value.string; apply ByteArray.ext; simp
theorem digs_next {k f j : Nat} {l : List UInt8} (hj : 0 < j) (hjf : j ≤ f) (h : digs f j l = digs k k []) : ∃ f', digs f' (j / 10) (dg j :: l) = digs k k [] ∧ j / 10 ≤ f' := by
  cases f with
  | zero => omega
  | succ f =>
    have e : digs (f + 1) j l = digs f (j / 10) (dg j :: l) := by rw [digs, if_neg (by omega)]
    exact ⟨f, e ▸ h, by omega⟩
set_option maxHeartbeats 2000000 in
theorem markT (k : Nat) (w : World) (h0 : 0 < k) (hk : k ≤ 1048577) : Calls Try.prog 22 #[.int .i64 k] w fun e w' => e = .returned (strv (mtx k)) ∧ Below w.heap.size w w' := by
  have q0 : (0 : Int) < (k : Int) := by omega
  have q00 : k ≠ 0 := by omega
  go_enter Try.func22, Try.ntmps22
  go_wp2
  go_loopw [0, 3] (fun i o wr => ∃ (j f : Nat) (l : List UInt8), i = .int .i64 j ∧ o = .string ⟨l.toArray⟩ ∧ j ≤ f ∧ Hid (digs f j l = digs k k []) ∧ l.length + j ≤ k ∧ Below w.heap.size w wr) (fun i _ _ => (intOf i).toNat)
  case atStart => exact ⟨k, k, [], rfl, rfl, Nat.le_refl _, rfl, by simp, Below.refl _ _⟩
  case round =>
    obtain ⟨j, f, l, rfl, rfl, hjf, HD, hl, hbel⟩ := hrel
    by_cases hj : 0 < j
    · have q1 : (0 : Int) < (j : Int) := by omega
      have HN : Hid (∃ f', digs f' (j / 10) (dg j :: l) = digs k k [] ∧ j / 10 ≤ f') := digs_next hj hjf HD.out
      go_wp2
      rw [conv1]
      simp only [Result.andThen]
      rw [Oper.upon_value]
      go_wp2
      obtain ⟨f', hf1, hf2⟩ := HN.out
      exact ⟨⟨j / 10, f', dg j :: l, by simp, app_one _ _, hf2, hf1, by simp only [List.length_cons]; omega, hbel.alloc hbel.size _⟩, by simp [intOf]; omega⟩
    · have HV : Hid (mtx k = 109 :: l) := hid (by
        unfold mtx
        rw [← HD.out]
        obtain rfl : j = 0 := by omega
        cases f <;> simp [digs])
      have q1 : ¬ (0 : Int) < (j : Int) := by omega
      go_wp2
      go_ret
      exact ⟨by rw [HV.out]; exact congrArg Ending.returned (app_one 109 l), hbel⟩

def marksTo (n : Nat) : List (List UInt8) := (List.range n).map fun i => mtx (i + 1)
theorem marksTo_len (n : Nat) : (marksTo n).length = n := by simp [marksTo]
theorem marksTo_succ (n : Nat) : marksTo (n + 1) = marksTo n ++ [mtx (n + 1)] := by simp [marksTo, List.range_succ]
theorem marksTo_get {n i : Nat} (h : i < n) : (marksTo n)[i]? = some (mtx (i + 1)) := by simp [marksTo, h]
def half (ts : List (List UInt8)) (i : Nat) : List (List UInt8) := marksTo i ++ ts.drop i
theorem half_len {ts : List (List UInt8)} {i : Nat} (h : i ≤ ts.length) : (half ts i).length = ts.length := by simp [half, marksTo_len]; omega
theorem half_set {ts : List (List UInt8)} {i : Nat} (h : i < ts.length) : (half ts i).set i (mtx (i + 1)) = half ts (i + 1) := by
  unfold half
  rw [marksTo_succ, List.drop_eq_getElem_cons h, List.set_append_right _ _ (Nat.le_of_eq (marksTo_len i)), marksTo_len, Nat.sub_self, List.set_cons_zero, List.append_assoc]
  rfl
theorem owns_set {w : World} {base g n cap i : Nat} {e : TypeId} {xs : List Value} (h : w.ownsRow base e 1 (.slice (some ⟨g, 0, none⟩) n cap) n xs) (hi : i < n) (u : Value) :
    (w.setCell ⟨g, i, none⟩ u).ownsRow base e 1 (.slice (some ⟨g, 0, none⟩) n cap) n (xs.set i u) := by
  obtain ⟨hl, ⟨h0, _⟩ | ⟨g', cap', cur, hv, hbg, hg, hle, hm, hs, ht⟩⟩ := h
  · cases h0
  · cases hv
    refine ⟨by simpa using hl, .inr ⟨g, cap, cur.setIfInBounds i u, rfl, hbg, ?_, hle, hm, by simpa using hs, ?_⟩⟩
    · simp [World.setCell, Array.getElem?_modify, hg]
    · rw [← ht]
      simp [List.take_set]
theorem owns_cell {w : World} {base g n cap i : Nat} {e : TypeId} {xs : List Value} (h : w.ownsRow base e 1 (.slice (some ⟨g, 0, none⟩) n cap) n xs) (hi : i < n) :
    (∃ u, w.cell? ⟨g, i, none⟩ = some u) ∧ w.frozen? ⟨g, i, none⟩ = false ∧ base ≤ g ∧ g < w.heap.size := by
  obtain ⟨hl, ⟨h0, _⟩ | ⟨g', cap', cur, hv, hbg, hg, hle, hm, hs, ht⟩⟩ := h
  · cases h0
  · cases hv
    have hlt : i < cur.size := by omega
    exact ⟨⟨cur[i], by simp [World.cell?, hg, hlt]⟩, by simp [World.frozen?, hg], hbg, (Array.getElem?_eq_some_iff.1 hg).1⟩
theorem owns_some {w : World} {base n : Nat} {e : TypeId} {v : Value} {xs : List Value} (h : w.ownsRow base e 1 v n xs) (hn : 0 < n) : ∃ g cap, v = .slice (some ⟨g, 0, none⟩) n cap := by
  obtain ⟨hl, ⟨_, h0⟩ | ⟨g', cap', cur, hv, _⟩⟩ := h
  · omega
  · exact ⟨_, _, hv⟩
theorem owns_slice {w : World} {base n : Nat} {e : TypeId} {v : Value} {xs : List Value} (h : w.ownsRow base e 1 v n xs) : ∃ a cap, v = .slice a n cap := by
  obtain ⟨hl, ⟨rfl, rfl⟩ | ⟨g', cap', cur, hv, _⟩⟩ := h
  · exact ⟨_, _, rfl⟩
  · exact ⟨_, _, hv⟩
theorem owns_below' {w w' : World} {base : Nat} {e : TypeId} {size n : Nat} {v : Value} {xs : List Value} (h : w.ownsRow base e size v n xs) (hb : Below w.heap.size w w') : w'.ownsRow base e size v n xs :=
  h.kept (row := none) ⟨hb.os, hb.tape, hb.output, hb.size, fun k hk _ => hb.block k hk⟩ (by cases v.ownBlock <;> simp)
theorem grown_refl (w : World) (row : Option Nat) : w.grownBy w row := ⟨rfl, rfl, rfl, Nat.le_refl _, fun _ _ _ => rfl⟩
theorem grown_after {w w1 w2 : World} {row : Option Nat} (h : w.grownBy w1 row) (h2 : w1.grownBy w2 row) : w.grownBy w2 row :=
  ⟨h2.os.trans h.os, h2.tape.trans h.tape, h2.output.trans h.output, Nat.le_trans h.size h2.size, fun k hk hr => (h2.block k (Nat.lt_of_lt_of_le hk h.size) hr).trans (h.block k hk hr)⟩
theorem grown_trans {w w1 w2 : World} {row : Option Nat} (h : w.grownBy w1 row) (h2 : Below w1.heap.size w1 w2) : w.grownBy w2 row :=
  grown_after h ⟨h2.os, h2.tape, h2.output, h2.size, fun k hk _ => h2.block k hk⟩
theorem grown_set {w w1 : World} {g : Nat} (h : w.grownBy w1 (some g)) (i : Nat) (u : Value) : w.grownBy (w1.setCell ⟨g, i, none⟩ u) (some g) :=
  grown_after h ⟨rfl, rfl, rfl, by simp [World.setCell], fun k hk hr => Below.heap_setCell _ _ _ _ (fun e => hr (by rw [e]))⟩
theorem markT1 (k : Nat) (w : World) (hk : k ≤ 1048576) : Calls Try.prog 22 #[.int .i64 (1 + (k : Int))] w fun e w' => e = .returned (strv (mtx (k + 1))) ∧ Below w.heap.size w w' := by
  have h := markT (k + 1) w (by omega) (by omega)
  rw [show ((k + 1 : Nat) : Int) = 1 + (k : Int) from by omega] at h
  exact h
set_option maxHeartbeats 2000000 in
theorem markS (B : Nat) (v : Value) (ts : List (List UInt8)) (w : World) (hn : ts.length ≤ 1048576) (hB : B ≤ w.heap.size) (h : w.ownsRow B 9 1 v ts.length (ts.map strv)) :
    Calls Try.prog 16 #[v, .int .i64 1] w fun e w' => e = .returned (.int .i64 (1 + (ts.length : Int))) ∧ w'.ownsRow B 9 1 v ts.length ((marksTo ts.length).map strv) ∧ w.grownBy w' v.ownBlock := by
  obtain ⟨a, cap, rfl⟩ := owns_slice h
  have HO : Hid (w.ownsRow B 9 1 (.slice a ts.length cap) ts.length (ts.map strv)) := h
  clear h
  go_enter Try.func16, Try.ntmps16
  go_wp2
  go_loopw [1, 5] (fun q i wr => ∃ k : Nat, i = .int .i64 k ∧ q = .int .i64 (1 + (k : Int)) ∧ k ≤ ts.length ∧ Hid (wr.ownsRow B 9 1 (.slice a ts.length cap) ts.length ((half ts k).map strv)) ∧ w.grownBy wr (Value.slice a ts.length cap).ownBlock) (fun _ i _ => ts.length - (intOf i).toNat)
  case atStart => exact ⟨0, rfl, rfl, Nat.zero_le _, hid (by simpa [half, marksTo] using HO.out), grown_refl _ _⟩
  case round =>
    obtain ⟨k, rfl, rfl, hk, HR, hbel⟩ := hrel
    have hz := hbel.size
    by_cases hlt : k < ts.length
    · obtain ⟨g, c2, e2⟩ := owns_some HR.out (by omega)
      cases e2
      have q1 : (k : Int) < (ts.length : Int) := by omega
      go_wp2_with fail
      refine (markT1 k _ (by omega)).mono ?_
      rintro e w1 ⟨rfl, hb1⟩
      have ho1 := owns_below' HR.out hb1
      obtain ⟨⟨u, hcu⟩, hfu, hbg, hgl⟩ := owns_cell ho1 hlt
      have HS : Hid ((w1.setCell ⟨g, k, none⟩ (strv (mtx (k + 1)))).ownsRow B 9 1 (.slice (some ⟨g, 0, none⟩) ts.length cap) ts.length ((half ts (k + 1)).map strv)) := hid (by
        have h := owns_set ho1 hlt (strv (mtx (k + 1)))
        rw [← List.map_set, half_set hlt] at h
        exact h)
      have hb2 : w.grownBy (w1.setCell ⟨g, k, none⟩ (strv (mtx (k + 1)))) (some g) := grown_set (grown_trans hbel hb1) k _
      clear ho1
      unfold strv at *
      go_wp2
      exact ⟨⟨k + 1, by simp, by simp; omega, by omega, HS, hb2⟩, by simp [intOf]; omega⟩
    · obtain rfl : k = ts.length := by omega
      have HS : Hid (wr.ownsRow B 9 1 (.slice a ts.length cap) ts.length ((marksTo ts.length).map strv)) := hid (by simpa [half] using HR.out)
      go_wp2
      go_ret
      exact ⟨rfl, HS.out, hbel⟩

set_option maxHeartbeats 1000000 in
theorem markR (c : Int) (B : Nat) (v : Value) (ts : List (List UInt8)) (w : World) (hn : ts.length ≤ 1048576) (hB : B ≤ w.heap.size) (h : w.ownsRow B 9 1 v ts.length (ts.map strv)) :
    Calls Try.prog 8 #[.agg #[.int .i64 c, v], .int .i64 1] w fun e w' => e = .returned (.int .i64 (1 + (ts.length : Int))) ∧ w'.ownsRow B 9 1 v ts.length ((marksTo ts.length).map strv) ∧ w.grownBy w' v.ownBlock := by
  obtain ⟨a, cap, rfl⟩ := owns_slice h
  have HO : Hid (w.ownsRow B 9 1 (.slice a ts.length cap) ts.length (ts.map strv)) := h
  clear h
  go_enter Try.func8, Try.ntmps8
  go_wp2_with fail
  refine (markS B _ ts _ hn (by simp; omega) (HO.out.alloc _)).mono ?_
  rintro e w1 ⟨rfl, h1, hb1⟩
  have H1 : Hid (w1.ownsRow B 9 1 (.slice a ts.length cap) ts.length ((marksTo ts.length).map strv)) := h1
  clear h1
  go_wp2
  go_ret
  exact ⟨rfl, H1.out, grown_after (World.grownBy_alloc w _ _) hb1⟩
set_option maxHeartbeats 2000000 in
theorem heldS (v : Value) (n : Nat) (w : World) (hn : n ≤ 1048576) (h : RowAt w v (marksTo n)) :
    Calls Try.prog 17 #[v, .int .i64 1] w fun e w' => e = .returned (.int .i64 (1 + (n : Int))) ∧ Below w.heap.size w w' := by
  obtain ⟨a, cap, rfl⟩ := h.slice
  rw [marksTo_len] at h ⊢
  have H1 : Hid (RowAt w (.slice a n cap) (marksTo n)) := h
  clear h
  go_enter Try.func17, Try.ntmps17
  go_wp2
  go_loopw [1, 5] (fun q i wr => ∃ k : Nat, i = .int .i64 k ∧ q = .int .i64 (1 + (k : Int)) ∧ k ≤ n ∧ Below w.heap.size w wr) (fun _ i _ => n - (intOf i).toNat)
  case atStart => exact ⟨0, rfl, rfl, Nat.zero_le _, Below.refl _ _⟩
  case round =>
    obtain ⟨k, rfl, rfl, hk, hbel⟩ := hrel
    have hz := hbel.size
    by_cases hlt : k < n
    · obtain ⟨g, c2, e2, hg, hc⟩ := (H1.out.below hbel).at (i := k) (by rw [marksTo_len]; exact hlt)
      rw [marksTo_len] at e2
      cases e2
      have hmt : (marksTo n)[k]'(by rw [marksTo_len]; exact hlt) = mtx (k + 1) := by
        have h := marksTo_get hlt
        rw [List.getElem?_eq_getElem (by rw [marksTo_len]; exact hlt)] at h
        exact Option.some.inj h
      rw [hmt] at hc
      have HM : Hid (∀ w : World, Calls Try.prog 22 #[.int .i64 (1 + (k : Int))] w fun e w' => e = .returned (strv (mtx (k + 1))) ∧ Below w.heap.size w w') := fun w => markT1 k w (by omega)
      generalize mtx (k + 1) = t at *
      clear hmt
      unfold strv at *
      have hne := strv_ne t
      have q1 : (k : Int) < (n : Int) := by omega
      go_wp2
      go_region_with ((go_at_call 22; refine (HM.out _).mono ?_; rintro e w1 ⟨rfl, hb1⟩; have hbb : Below wr.heap.size wr w1 := ((Below.refl wr.heap.size wr).drew).trans hb1; have hcc := (hbb.cell (p := ⟨g, k, none⟩) hg).trans hc))
      all_goals go_wp2
      all_goals exact ⟨⟨k + 1, by simp, by simp; omega, by omega, hbel.trans (hbb.mono hz)⟩, by simp [intOf]; omega⟩
    · obtain rfl : k = n := by omega
      go_wp2
      go_ret
      exact ⟨rfl, hbel⟩

set_option maxHeartbeats 1000000 in
theorem heldR (c : Int) (v : Value) (n : Nat) (w : World) (hn : n ≤ 1048576) (h : RowAt w v (marksTo n)) :
    Calls Try.prog 9 #[.agg #[.int .i64 c, v], .int .i64 1] w fun e w' => e = .returned (.int .i64 (1 + (n : Int))) ∧ Below w.heap.size w w' := by
  obtain ⟨a, cap, rfl⟩ := h.slice
  have H1 : Hid (RowAt w (.slice a (marksTo n).length cap) (marksTo n)) := h
  clear h
  have hB : Below w.heap.size w (w.alloc (.cells #[.int .i64 c, .slice a (marksTo n).length cap] 24)) := (Below.refl _ w).alloc (Nat.le_refl _) _
  have q0 : ¬ (1 + (n : Int)) < 0 := by omega
  go_enter Try.func9, Try.ntmps9
  go_wp2_with fail
  refine (heldS _ n _ hn (H1.out.below hB)).mono ?_
  rintro e w1 ⟨rfl, hb1⟩
  go_wp2
  go_ret
  exact ⟨rfl, hB.trans (hb1.mono (by simp))⟩
end Cut
end Go.Proofs.Ytbnpejijfnigaag
