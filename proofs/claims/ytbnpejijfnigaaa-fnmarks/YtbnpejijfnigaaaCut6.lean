/- What the program's CutMarks answers: what the specification's does. -/
import Derived.Test.YtbnpejijfnigaaaCut5
namespace Go.Proofs.Ytbnpejijfnigaaa
open Go.Shelf Go.RowKit
set_option linter.unusedVariables false
attribute [local go_sem] Oper.semAt_some
namespace Cut
set_option maxHeartbeats 1000000 in
theorem piecesOf_in (n : Nat) (s : ByteArray) (w : World) :
    CallsIn Fence.wide n Try.prog 15 #[.string s] w fun e w' => e = .returned (.func (.func 18) #[] #[.pointer (some ⟨w.heap.size, 0, none⟩)]) ∧ w' = w.alloc (.cells #[.string s] 9) := by
  refine callsIn_of_wp Try.func15 rfl trivial ?_ rfl
  simp only [Try.ntmps15, List.size_toArray, List.length_cons, List.length_nil, Nat.reduceAdd, Nat.reduceSub, Array.replicate_succ, Array.replicate_zero, List.push_toArray, List.append_toArray, List.nil_append, List.cons_append]
  gi_wp2
  go_ret
  exact ⟨rfl, rfl⟩
theorem pieces_stops (n : Nat) (hn : 1 ≤ n) (Bn : Nat) (t : List UInt8) (hs : t.length ≤ 1500) (hia : ∀ k, IAok (rb t k)) (w : World) (hBn : Bn < w.heap.size) (hc : w.cell? ⟨Bn, 0, none⟩ = some (.string ⟨t.toArray⟩)) :
    SeqStopsK Fence.wide n Try.prog 18 #[.pointer (some ⟨Bn, 0, none⟩)] encs (fun _ _ => True) (fun ys => ys.map (·.1) = told t) (fun pre => pre.map (·.1) <+: told t) t.length w := fun l J Jx W hW hJ hJx hY h0 =>
  pieces1 n hn l Bn t hs hia J Jx W hJ hJx hY ((hW.cell (p := ⟨Bn, 0, none⟩) hBn).trans hc) h0
set_option maxHeartbeats 1000000 in
theorem clone (s : ByteArray) (w : World) (hs : s.size ≤ 1500) : Calls Try.prog 16 #[.string s] w fun e w' => e = .returned (.string s) ∧ Below w.heap.size w w' := by
  go_enter Try.func16, Try.ntmps16
  go_wp2_with fail
  refine (Try.stringslite_Clone s _ (by omega)).mono ?_
  rintro e w1 ⟨rfl, hb⟩
  go_wp2
  go_ret
  exact ⟨rfl, hb⟩
theorem stepAppend {F : Fence} {n : Nat} {P : Program} {o : Oper} {a : Act} {w w2 : World} {K : Act → World → Prop} {Q : Exit → Act → World → Prop} {s x : Operand} {t : TypeId} {va vx v' : Value} {y : Nat → Option Bool} {R : Prop}
    (hg : o.guard = none) (hop : o.op = Op.call { callee := Callee.builtin Builtin.append, args := #[s, x], argTypes := #[t, t] }) (hs : a.eval s = va) (hx : a.eval x = vx)
    (hrun : Sem.run P (Builtin.append_ #[t, t] o.type #[va, vx]) w = .ok v' w2) (hK : K (a.put o.dst v') w2) : if Region.wanted o y = true then Oper.wpIn F n P o a w K Q else R := by
  rw [if_pos (by simp [Region.wanted, hg])]
  unfold Oper.wpIn
  refine ⟨?_, ?_⟩
  · simp [Oper.about, hop, resolve, Target.leads, Sem.run_pure]
  · rw [Oper.semAt_plain F _ _ (by rw [hop]; intro c hc'; cases hc')]
    simp [execOp, hop, resolve, invoke, builtin, hs, hx, hrun, Result.andThen]
    exact hK
def oks (pre : List Pc) : Prop := ∀ x ∈ pre, x.1.2 = true
def vals (pre : List Pc) : List Value := pre.map fun x => strv x.1.1
theorem owns_below {w w' : World} {base : Nat} {e : TypeId} {size n : Nat} {v : Value} {xs : List Value} (h : w.ownsRow base e size v n xs) (hb : Below w.heap.size w w') : w'.ownsRow base e size v n xs :=
  h.kept (grown_of_below hb) (by cases v.ownBlock <;> simp)
theorem own_res {w : World} {B : Nat} (hB : w.heap.size ≤ B) (c : Code) : OwnFrom B (fun (pre : List Pc) W => (c = .ret ∧ (∃ x ∈ pre, x.1.2 = false)) ∧ Below w.heap.size w W ∧ W.heap[w.heap.size]? = some (.cells #[.int .i64 5, .slice none 0 0] 27 (0, 0))) := by
  rintro pre X Y row ⟨h1, h2, h3⟩ hg hr
  refine ⟨h1, h2.grown hg h2.size (fun k e => Nat.le_trans hB (hr k e).1), (hg.block _ (Array.getElem?_eq_some_iff.1 h3).1 (fun e => ?_)).trans h3⟩
  obtain ⟨_, o, ho, hc⟩ := hr _ e.symm
  rw [h3] at ho
  cases ho
  cases hc
theorem res_heap {W : World} {k : Nat} {a b x y : Value} {t : TypeId} (h : W.heap[k]? = some (.cells #[a, b] t (0, 0))) : ((W.setCell ⟨k, 0, none⟩ x).setCell ⟨k, 1, none⟩ y).heap[k]? = some (.cells #[x, y] t (0, 0)) := by
  simp [World.setCell, Array.getElem?_modify, h]
theorem put_other {W : World} {k D : Nat} {o x : Obj} (h : W.heap[k]? = some x) (hne : k ≠ D) : (W.putObj D o).heap[k]? = some x :=
  ((grownBy_putObj' W D o).block k (Array.getElem?_eq_some_iff.1 h).1 (fun e => hne (by cases e; rfl))).trans h
theorem told_good {l : List UInt8} {ys : List Pc} (h : ys.map (·.1) = told l) (ho : oks ys) : good l = true := by
  unfold good
  rw [← h, List.all_eq_true]
  intro x hx
  obtain ⟨y, hy, rfl⟩ := List.mem_map.1 hx
  exact ho y hy
theorem told_texts {l : List UInt8} {ys : List Pc} (h : ys.map (·.1) = told l) : texts l = ys.map fun x => x.1.1 := by
  unfold texts
  rw [← h]
  simp [Function.comp_def]
theorem told_bad' {l : List UInt8} {pre : List Pc} (h : pre.map (·.1) <+: told l) {x : Pc} (hx : x ∈ pre) (hf : x.1.2 = false) : good l = false := by
  unfold good
  rw [List.all_eq_false]
  exact ⟨x.1, h.subset (List.mem_map.2 ⟨x, hx, rfl⟩), by rw [hf]; decide⟩
set_option maxRecDepth 100000 in
set_option maxHeartbeats 4000000 in
theorem implCutSmall (s : ByteArray) (w : World) (hs : s.size ≤ 1500) (hia : ∀ k, IAok (rb s.data.toList k)) : CallsIn Fence.wide 5 Try.prog 6 #[.string s] w fun e w' => CutPost s w e w' := by
  obtain ⟨i0, hi, hz0, hz1, hz2⟩ := info_parts infoStr
  have HI : Hid (∀ k, IAok (rb s.data.toList k)) := hia
  clear hia
  refine callsIn_of_wp_marks Try.func6 rfl trivial ?_ rfl
  simp only [Try.ntmps6, List.size_toArray, List.length_cons, List.length_nil, Nat.reduceAdd, Nat.reduceSub, Array.replicate_succ, Array.replicate_zero, List.push_toArray, List.append_toArray, List.nil_append, List.cons_append]
  gi_wp2_with fail
  refine ⟨trivial, (piecesOf_in _ s _).mono ?_⟩
  rintro e w' ⟨rfl, rfl⟩
  gi_wp2_with fail
  have hsz : s.data.toList.length ≤ 1500 := by rw [len_size]; exact hs
  have bP := (Boxed.new (w.alloc (.cells #[.int .i64 0, .slice none 0 0] 27)) 25 (.slice none 0 0)).alloc (.cells #[.string s] 9)
  rw [World.size_alloc] at bP
  have bT := Boxed.new ((w.alloc (.cells #[.int .i64 0, .slice none 0 0] 27)).alloc (.cells #[.slice none 0 0] 25)) 9 (.string s)
  simp only [World.size_alloc] at bT
  have hB0 : Below (w.heap.size + 1) (w.alloc (.cells #[.int .i64 0, .slice none 0 0] 27)) (((w.alloc (.cells #[.int .i64 0, .slice none 0 0] 27)).alloc (.cells #[.slice none 0 0] 25)).alloc (.cells #[.string s] 9)) := ((Below.refl _ _).alloc (by simp) _).alloc (by simp) _
  refine wpIn_rangeFunc_ownG (F := Fence.wide) rfl (by omega) (gf := 18) (lb := #[.pointer (some ⟨w.heap.size + 1 + 1, 0, none⟩)]) rfl trivial (enters_of Try.func18 (by kernel_rfl) rfl)
    (pieces_stops 4 (by omega) (w.heap.size + 1 + 1) s.data.toList hsz HI.out _ (by simp) bT.cell) (fun _ _ => trivial) (fun _ _ _ _ _ _ _ _ => trivial) (Below.refl _ _) (fun _ => rfl)
    (fun pre W => ((∃ v, Boxed W (w.heap.size + 1) 25 v ∧ W.ownsRow (w.heap.size + 1) 9 1 v pre.length (vals pre) ∧ True) ∧ Below (w.heap.size + 1) (w.alloc (.cells #[.int .i64 0, .slice none 0 0] 27)) W) ∧ oks pre)
    (fun c pre W => (c = .ret ∧ (∃ x ∈ pre, x.1.2 = false)) ∧ Below w.heap.size w W ∧ W.heap[w.heap.size]? = some (.cells #[.int .i64 5, .slice none 0 0] 27 (0, 0)))
    (OwnFrom.and (OwnFrom.and (Own.from (holdsRow_own (w.heap.size + 1) (w.heap.size + 1) 25 9 1 (fun pre => pre.length) vals (fun _ _ => True)) _) (ownFrom_below (by simp) (by simp))) (ownFrom_pure _ oks))
    (fun c => own_res (by simp; omega) c)
    ⟨⟨⟨_, bP, World.ownsRow_nil _ _ _ _, trivial⟩, hB0⟩, fun _ h => by cases h⟩
    (fun x => { tmps := #[.string s, undef, .pointer (some ⟨w.heap.size, 0, none⟩), .pointer (some ⟨w.heap.size + 1, 0, none⟩), .string ⟨x.1.1.toArray⟩, .bool x.1.2, .string s, .int .i64 s.size, .bool (decide (1500 < (s.size : Int))), undef, .string s, .func (.func 18) #[] #[.pointer (some ⟨w.heap.size + 1 + 1, 0, none⟩)], .string ⟨x.1.1.toArray⟩, .bool x.1.2, undef, undef, undef, undef, undef, undef, undef, undef, undef, undef], defers := [] }) ?assign ?body ?done ?stop
  case assign =>
    intro l x W K hK
    simp only [encs]
    gi_wp2
    exact hK
  case body =>
    rintro l pre ⟨⟨tx, bx⟩, hxl⟩ W ⟨⟨⟨v, hv, hrow, _⟩, hB⟩, hok⟩ hlt
    have hc := hv.cell
    have hz' : w.heap.size + 1 ≤ W.heap.size := by have := hB.size; simpa using this
    have hpl : pre.length < 1500 := Nat.lt_of_lt_of_le hlt hsz
    have c0 : W.cell? ⟨w.heap.size, 0, none⟩ = some (.int .i64 0) := by rw [hB.cell (p := ⟨w.heap.size, 0, none⟩) (by simp)]; simp
    have c1 : W.cell? ⟨w.heap.size, 1, none⟩ = some (.slice none 0 0) := by rw [hB.cell (p := ⟨w.heap.size, 1, none⟩) (by simp)]; simp
    have f0 : W.frozen? ⟨w.heap.size, 0, none⟩ = false := by rw [hB.frozen (p := ⟨w.heap.size, 0, none⟩) (by simp)]; simp
    have f1 : W.frozen? ⟨w.heap.size, 1, none⟩ = false := by rw [hB.frozen (p := ⟨w.heap.size, 1, none⟩) (by simp)]; simp
    have hres : W.heap[w.heap.size]? = some (.cells #[.int .i64 0, .slice none 0 0] 27 (0, 0)) := by rw [hB.block _ (by simp)]; exact World.alloc_heap_new w _
    have hBw : Below w.heap.size w W := ((Below.refl _ w).alloc (Nat.le_refl _) _).trans (hB.mono (by simp))
    cases bx
    · gi_wp2
      exact ⟨((KeepsOthers.setCell _ _ _).trans (KeepsOthers.setCell _ _ _)).from _, ⟨rfl, _, List.mem_append_right _ (List.mem_singleton_self _), rfl⟩, (hBw.setCell (by simp) _).setCell (by simp) _, res_heap hres⟩
    · have hmx : Try.prog.follows .mixedOrders = true := by kernel_rfl
      have hlx : (ByteArray.mk tx.toArray).size ≤ 1500 := by simpa [ByteArray.size] using hxl
      gi_wp2
      refine wpIn_region_any (by kernel_rfl) ?_
      try (change wpAnyIn _ _ _ _ _ _ _ _ _ (World.drew _))
      refine wpAnyIn_ready (rs := [0, 1]) (by kernel_rfl) (by simp) ?_
      refine AllReadyIn.cons rfl (fun K hK => ?_) ?_
      · go_simp
        refine hK _ _ ?_
        clear hK K
        refine wpAnyIn_ready (rs := [1]) (by kernel_rfl) (by simp) ?_
        refine AllReadyIn.cons rfl (fun K hK => ?_) ?_
        · go_simp
          refine hK _ _ ?_
          clear hK K
          refine wpAnyIn_ready (rs := [2]) (by kernel_rfl) (by simp) ?_
          refine AllReadyIn.cons rfl (fun K hK => ?_) ?_
          · go_simp
            refine ⟨trivial, (CallsIn.inRound l (callsIn_wide.2 (clone ⟨tx.toArray⟩ _ hlx))).mono ?_⟩
            rintro e w1 ⟨rfl, hb0⟩
            have hb1 : Below W.heap.size W w1 := ((Below.refl W.heap.size W).drew).trans hb0
            have hv1 : Boxed w1 (w.heap.size + 1) 25 v := (hb1.block _ hv.lt).trans hv
            have hrow1 := owns_below hrow hb1
            have hc1 := hv1.cell
            have hc1a := (hv1.alloc (.cells #[.string ⟨tx.toArray⟩] 9)).cell
            have hz1' : w.heap.size + 1 ≤ w1.heap.size := Nat.le_trans hz' hb1.size
            obtain ⟨v', w2, hr, hown', hgrow, _⟩ := run_append_own (P := Try.prog) (w1.alloc (.cells #[.string ⟨tx.toArray⟩] 9)) (w.heap.size + 1) 25 25 9 i0 (.string { data := #[] }) 1 16 Try.underlying25 hi hz0 hz1 hz2 rfl (by decide) v pre.length (vals pre) (hrow1.alloc _) ⟨w1.heap.size, 0, none⟩ 1 1 [.string ⟨tx.toArray⟩] rfl (cell_one_new _ _ _) (by simp [Value.oneCell']) (by unfold maxLen; omega) (by omega) (by simp; omega)
            obtain ⟨g', cap', rfl⟩ := ownsRow_succ hown'
            obtain ⟨hx1, hx2, hr2, hk2, hb2⟩ := hv1.appended (by decide) hrow1 hz1' (Nat.le_refl _) hown' hgrow
            have HR : Hid (Sem.run Try.prog (Builtin.append_ #[25, 25] 25 #[v, .slice (some ⟨w1.heap.size, 0, none⟩) 1 1]) (w1.alloc (.cells #[.string ⟨tx.toArray⟩] 9)) = .ok (.slice (some ⟨g', 0, none⟩) (pre.length + 1) cap') w2) := hr
            clear hr
            have hc2 := hx1.cell
            have hf2 := hx1.frozen
            show K _ _
            refine hK _ _ ?_
            clear hK K
            refine wpAnyIn_ready (rs := [3]) (by kernel_rfl) (by simp) ?_
            refine AllReadyIn.cons rfl (fun K hK => ?_) ?_
            · go_simp
              refine hK _ _ ?_
              clear hK K
              refine wpAnyIn_ready (rs := [4]) (by kernel_rfl) (by simp) ?_
              refine AllReadyIn.cons rfl (fun K hK => ?_) ?_
              · refine stepAppend (va := v) (vx := .slice (some ⟨w1.heap.size, 0, none⟩) 1 1) (by rfl) (by rfl) (by rfl) (by rfl) HR.out ?_
                refine hK _ _ ?_
                clear hK K
                refine wpAnyIn_ready (rs := [5]) (by kernel_rfl) (by simp) ?_
                refine AllReadyIn.cons rfl (fun K hK => ?_) ?_
                · go_simp
                  refine hK _ _ ?_
                  clear hK K
                  refine wpAnyIn_done (by kernel_rfl) ?_ _
                  have hkk : KeepsOthers W w1 := KeepsOthers.of_grownBy (grown_of_below hb1) (fun j o e => by cases e)
                  exact ⟨(hkk.trans hk2).from _, trivial, ⟨⟨⟨_, hx2, by simpa [vals, strv] using hr2, trivial⟩, hB.trans ((hb1.mono hz').trans hb2)⟩, fun x hx => by
                    rcases List.mem_append.1 hx with h | h
                    · exact hok x h
                    · obtain rfl := List.mem_singleton.1 h
                      rfl⟩⟩
                exact AllReadyIn.nil
              exact AllReadyIn.nil
            exact AllReadyIn.nil
          exact AllReadyIn.nil
        exact AllReadyIn.nil
      refine AllReadyIn.cons rfl (fun K hK => ?_) ?_
      · go_simp
        refine hK _ _ ?_
        clear hK K
        refine wpAnyIn_ready (rs := [0, 2]) (by kernel_rfl) (by simp) ?_
        refine AllReadyIn.cons rfl (fun K hK => ?_) ?_
        · go_simp
          refine hK _ _ ?_
          clear hK K
          refine wpAnyIn_ready (rs := [2]) (by kernel_rfl) (by simp) ?_
          refine AllReadyIn.cons rfl (fun K hK => ?_) ?_
          · go_simp
            refine ⟨trivial, (CallsIn.inRound l (callsIn_wide.2 (clone ⟨tx.toArray⟩ _ hlx))).mono ?_⟩
            rintro e w1 ⟨rfl, hb0⟩
            have hb1 : Below W.heap.size W w1 := ((Below.refl W.heap.size W).drew).trans hb0
            have hv1 : Boxed w1 (w.heap.size + 1) 25 v := (hb1.block _ hv.lt).trans hv
            have hrow1 := owns_below hrow hb1
            have hc1 := hv1.cell
            have hc1a := (hv1.alloc (.cells #[.string ⟨tx.toArray⟩] 9)).cell
            have hz1' : w.heap.size + 1 ≤ w1.heap.size := Nat.le_trans hz' hb1.size
            obtain ⟨v', w2, hr, hown', hgrow, _⟩ := run_append_own (P := Try.prog) (w1.alloc (.cells #[.string ⟨tx.toArray⟩] 9)) (w.heap.size + 1) 25 25 9 i0 (.string { data := #[] }) 1 16 Try.underlying25 hi hz0 hz1 hz2 rfl (by decide) v pre.length (vals pre) (hrow1.alloc _) ⟨w1.heap.size, 0, none⟩ 1 1 [.string ⟨tx.toArray⟩] rfl (cell_one_new _ _ _) (by simp [Value.oneCell']) (by unfold maxLen; omega) (by omega) (by simp; omega)
            obtain ⟨g', cap', rfl⟩ := ownsRow_succ hown'
            obtain ⟨hx1, hx2, hr2, hk2, hb2⟩ := hv1.appended (by decide) hrow1 hz1' (Nat.le_refl _) hown' hgrow
            have HR : Hid (Sem.run Try.prog (Builtin.append_ #[25, 25] 25 #[v, .slice (some ⟨w1.heap.size, 0, none⟩) 1 1]) (w1.alloc (.cells #[.string ⟨tx.toArray⟩] 9)) = .ok (.slice (some ⟨g', 0, none⟩) (pre.length + 1) cap') w2) := hr
            clear hr
            have hc2 := hx1.cell
            have hf2 := hx1.frozen
            show K _ _
            refine hK _ _ ?_
            clear hK K
            refine wpAnyIn_ready (rs := [3]) (by kernel_rfl) (by simp) ?_
            refine AllReadyIn.cons rfl (fun K hK => ?_) ?_
            · go_simp
              refine hK _ _ ?_
              clear hK K
              refine wpAnyIn_ready (rs := [4]) (by kernel_rfl) (by simp) ?_
              refine AllReadyIn.cons rfl (fun K hK => ?_) ?_
              · refine stepAppend (va := v) (vx := .slice (some ⟨w1.heap.size, 0, none⟩) 1 1) (by rfl) (by rfl) (by rfl) (by rfl) HR.out ?_
                refine hK _ _ ?_
                clear hK K
                refine wpAnyIn_ready (rs := [5]) (by kernel_rfl) (by simp) ?_
                refine AllReadyIn.cons rfl (fun K hK => ?_) ?_
                · go_simp
                  refine hK _ _ ?_
                  clear hK K
                  refine wpAnyIn_done (by kernel_rfl) ?_ _
                  have hkk : KeepsOthers W w1 := KeepsOthers.of_grownBy (grown_of_below hb1) (fun j o e => by cases e)
                  exact ⟨(hkk.trans hk2).from _, trivial, ⟨⟨⟨_, hx2, by simpa [vals, strv] using hr2, trivial⟩, hB.trans ((hb1.mono hz').trans hb2)⟩, fun x hx => by
                    rcases List.mem_append.1 hx with h | h
                    · exact hok x h
                    · obtain rfl := List.mem_singleton.1 h
                      rfl⟩⟩
                exact AllReadyIn.nil
              exact AllReadyIn.nil
            exact AllReadyIn.nil
          exact AllReadyIn.nil
        refine AllReadyIn.cons rfl (fun K hK => ?_) ?_
        · go_simp
          refine ⟨trivial, (CallsIn.inRound l (callsIn_wide.2 (clone ⟨tx.toArray⟩ _ hlx))).mono ?_⟩
          rintro e w1 ⟨rfl, hb0⟩
          have hb1 : Below W.heap.size W w1 := ((Below.refl W.heap.size W).drew).trans hb0
          have hv1 : Boxed w1 (w.heap.size + 1) 25 v := (hb1.block _ hv.lt).trans hv
          have hrow1 := owns_below hrow hb1
          have hc1 := hv1.cell
          have hc1a := (hv1.alloc (.cells #[.string ⟨tx.toArray⟩] 9)).cell
          have hz1' : w.heap.size + 1 ≤ w1.heap.size := Nat.le_trans hz' hb1.size
          obtain ⟨v', w2, hr, hown', hgrow, _⟩ := run_append_own (P := Try.prog) (w1.alloc (.cells #[.string ⟨tx.toArray⟩] 9)) (w.heap.size + 1) 25 25 9 i0 (.string { data := #[] }) 1 16 Try.underlying25 hi hz0 hz1 hz2 rfl (by decide) v pre.length (vals pre) (hrow1.alloc _) ⟨w1.heap.size, 0, none⟩ 1 1 [.string ⟨tx.toArray⟩] rfl (cell_one_new _ _ _) (by simp [Value.oneCell']) (by unfold maxLen; omega) (by omega) (by simp; omega)
          obtain ⟨g', cap', rfl⟩ := ownsRow_succ hown'
          obtain ⟨hx1, hx2, hr2, hk2, hb2⟩ := hv1.appended (by decide) hrow1 hz1' (Nat.le_refl _) hown' hgrow
          have HR : Hid (Sem.run Try.prog (Builtin.append_ #[25, 25] 25 #[v, .slice (some ⟨w1.heap.size, 0, none⟩) 1 1]) (w1.alloc (.cells #[.string ⟨tx.toArray⟩] 9)) = .ok (.slice (some ⟨g', 0, none⟩) (pre.length + 1) cap') w2) := hr
          clear hr
          have hc2 := hx1.cell
          have hf2 := hx1.frozen
          show K _ _
          refine hK _ _ ?_
          clear hK K
          refine wpAnyIn_ready (rs := [0, 3]) (by kernel_rfl) (by simp) ?_
          refine AllReadyIn.cons rfl (fun K hK => ?_) ?_
          · go_simp
            refine hK _ _ ?_
            clear hK K
            refine wpAnyIn_ready (rs := [3]) (by kernel_rfl) (by simp) ?_
            refine AllReadyIn.cons rfl (fun K hK => ?_) ?_
            · go_simp
              refine hK _ _ ?_
              clear hK K
              refine wpAnyIn_ready (rs := [4]) (by kernel_rfl) (by simp) ?_
              refine AllReadyIn.cons rfl (fun K hK => ?_) ?_
              · refine stepAppend (va := v) (vx := .slice (some ⟨w1.heap.size, 0, none⟩) 1 1) (by rfl) (by rfl) (by rfl) (by rfl) HR.out ?_
                refine hK _ _ ?_
                clear hK K
                refine wpAnyIn_ready (rs := [5]) (by kernel_rfl) (by simp) ?_
                refine AllReadyIn.cons rfl (fun K hK => ?_) ?_
                · go_simp
                  refine hK _ _ ?_
                  clear hK K
                  refine wpAnyIn_done (by kernel_rfl) ?_ _
                  have hkk : KeepsOthers W w1 := KeepsOthers.of_grownBy (grown_of_below hb1) (fun j o e => by cases e)
                  exact ⟨(hkk.trans hk2).from _, trivial, ⟨⟨⟨_, hx2, by simpa [vals, strv] using hr2, trivial⟩, hB.trans ((hb1.mono hz').trans hb2)⟩, fun x hx => by
                    rcases List.mem_append.1 hx with h | h
                    · exact hok x h
                    · obtain rfl := List.mem_singleton.1 h
                      rfl⟩⟩
                exact AllReadyIn.nil
              exact AllReadyIn.nil
            exact AllReadyIn.nil
          refine AllReadyIn.cons rfl (fun K hK => ?_) ?_
          · go_simp
            refine hK _ _ ?_
            clear hK K
            refine wpAnyIn_ready (rs := [0]) (by kernel_rfl) (by simp) ?_
            refine AllReadyIn.cons rfl (fun K hK => ?_) ?_
            · go_simp
              refine hK _ _ ?_
              clear hK K
              refine wpAnyIn_ready (rs := [4]) (by kernel_rfl) (by simp) ?_
              refine AllReadyIn.cons rfl (fun K hK => ?_) ?_
              · refine stepAppend (va := v) (vx := .slice (some ⟨w1.heap.size, 0, none⟩) 1 1) (by rfl) (by rfl) (by rfl) (by rfl) HR.out ?_
                refine hK _ _ ?_
                clear hK K
                refine wpAnyIn_ready (rs := [5]) (by kernel_rfl) (by simp) ?_
                refine AllReadyIn.cons rfl (fun K hK => ?_) ?_
                · go_simp
                  refine hK _ _ ?_
                  clear hK K
                  refine wpAnyIn_done (by kernel_rfl) ?_ _
                  have hkk : KeepsOthers W w1 := KeepsOthers.of_grownBy (grown_of_below hb1) (fun j o e => by cases e)
                  exact ⟨(hkk.trans hk2).from _, trivial, ⟨⟨⟨_, hx2, by simpa [vals, strv] using hr2, trivial⟩, hB.trans ((hb1.mono hz').trans hb2)⟩, fun x hx => by
                    rcases List.mem_append.1 hx with h | h
                    · exact hok x h
                    · obtain rfl := List.mem_singleton.1 h
                      rfl⟩⟩
                exact AllReadyIn.nil
              exact AllReadyIn.nil
            exact AllReadyIn.nil
          exact AllReadyIn.nil
        exact AllReadyIn.nil
      exact AllReadyIn.nil
  case done =>
    rintro D ys W hD hS ⟨⟨⟨v, hv, hrow, _⟩, hB⟩, hok⟩ hK
    have hres : W.heap[w.heap.size]? = some (.cells #[.int .i64 0, .slice none 0 0] 27 (0, 0)) := by rw [hB.block _ (by simp)]; exact World.alloc_heap_new w _
    have hBw : Below w.heap.size w W := ((Below.refl _ w).alloc (Nat.le_refl _) _).trans (hB.mono (by simp))
    have hc := hv.cell
    have c0 : W.cell? ⟨w.heap.size, 0, none⟩ = some (.int .i64 0) := by rw [hB.cell (p := ⟨w.heap.size, 0, none⟩) (by simp)]; simp
    have c1 : W.cell? ⟨w.heap.size, 1, none⟩ = some (.slice none 0 0) := by rw [hB.cell (p := ⟨w.heap.size, 1, none⟩) (by simp)]; simp
    have f0 : W.frozen? ⟨w.heap.size, 0, none⟩ = false := by rw [hB.frozen (p := ⟨w.heap.size, 0, none⟩) (by simp)]; simp
    have f1 : W.frozen? ⟨w.heap.size, 1, none⟩ = false := by rw [hB.frozen (p := ⟨w.heap.size, 1, none⟩) (by simp)]; simp
    obtain ⟨a1, m1, k1, rfl⟩ := is_slice hrow
    gi_wp2
    have hDw : w.heap.size < D := by simp at hD; omega
    have hK3 : ((W.setCell ⟨w.heap.size, 0, none⟩ (.int .i64 0)).setCell ⟨w.heap.size, 1, none⟩ (.slice a1 m1 k1)).heap[D]? = some (.deferred (some [])) := ((KeepsOthers.setCell _ _ _).trans (KeepsOthers.setCell _ _ _)).same D _ hK rfl
    have hr4 := put_other (res_heap (x := .int .i64 0) (y := .slice a1 m1 k1) hres) (D := D) (o := .deferred none) (by omega)
    refine ⟨by simp, .inl ⟨_, _, rfl, run_takeDeferred hK3, ?_⟩⟩
    refine ⟨.agg #[.int .i64 0, .slice a1 m1 k1], by simp [results, Try.results6, go_sem, World.cell?, hr4], cut_post (cc_ok (by omega) (told_good hS hok)) ?_ ?_⟩
    · rw [told_texts hS]
      have h := ownsRow_putObj (owns_base (ownsRow_setCell_below (ownsRow_setCell_below hrow (a := ⟨w.heap.size, 0, none⟩) (by simp) (.int .i64 0)) (a := ⟨w.heap.size, 1, none⟩) (by simp) (.slice a1 m1 k1)) (Nat.le_succ _)) (.deferred none) hK3 rfl
      simpa [vals, Function.comp_def] using h
    · exact ((hBw.setCell (by simp) _).setCell (by simp) _).trans (belowK_b (w := w) (Nat.le_refl _) _ D _ _ (by omega) hK3 rfl rfl)
  case stop =>
    rintro D c pre W hD hS ⟨⟨rfl, x, hx, hxf⟩, hBw, hres⟩ hK
    gi_wp2
    have hDw : w.heap.size < D := by simp at hD; omega
    have hr4 := put_other hres (D := D) (o := .deferred none) (by omega)
    refine ⟨by simp, .inl ⟨_, _, rfl, run_takeDeferred hK, ?_⟩⟩
    refine ⟨.agg #[.int .i64 5, .slice none 0 0], by simp [results, Try.results6, go_sem, World.cell?, hr4], cut_post (cc_bad (by omega) (told_bad' hS hx hxf)) (World.ownsRow_nil _ _ _ _) ?_⟩
    exact hBw.trans (belowK_b (w := w) (Nat.le_refl _) _ D _ _ (by omega) hK rfl rfl)
set_option maxHeartbeats 2000000 in
theorem implCut (s : ByteArray) (w : World) (hs : s.size ≤ maxLen) (hia : s.size ≤ 1500 → ∀ k, IAok (rb s.data.toList k)) : Calls Try.prog 6 #[.string s] w fun e w' => CutPost s w e w' := by
  unfold maxLen at hs
  by_cases h15 : 1500 < s.size
  · have HC : Hid (ccode s.data.toList = 2 ∧ ctexts s.data.toList = []) := cc_many h15
    clear hia
    go_enter Try.func6, Try.ntmps6
    go_wp2
    exact bodyPost_ret (v := .agg #[.int .i64 2, .slice none 0 0]) (by simp [results, Try.results6, go_sem]) rfl (cut_post HC.out (World.ownsRow_nil _ _ _ _) ((Below.refl _ _).alloc (Nat.le_refl _) _))
  · exact callsIn_wide.1 (implCutSmall s w (by omega) (hia (by omega)))
end Cut
end Go.Proofs.Ytbnpejijfnigaaa
