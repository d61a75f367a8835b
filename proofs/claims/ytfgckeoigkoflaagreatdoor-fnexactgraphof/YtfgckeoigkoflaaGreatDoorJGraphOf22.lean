/- Laid together: GqL, GpA, GpB. -/
import Derived.Test.YtfgckeoigkoflaaGreatDoorJGraphOf21
import Derived.Test.YtfgckeoigkoflaaGreatDoorJGraphOf11
import Derived.RangeFuncGives
import Derived.RangeFuncIn
import Derived.Deep.AppendLies
import Derived.Test.YtfgckeoigkoflaaGreatDoorJGraphOf13
/- What an iterator over ends of flows gives is gathered in a new row. -/
namespace Go.Proofs.YtfgckeoigkoflaaGreatDoor
open Go.RowKit
set_option linter.unusedVariables false
namespace Mp
def evs (p : Int × Int) : List Value := [.int .i64 p.1, .int .i64 p.2]
theorem evs_len : ∀ ss : List (Int × Int), (ss.flatMap evs).length = ss.length * 2
  | [] => rfl
  | a :: r => by rw [List.flatMap_cons, List.length_append, evs_len r, List.length_cons]; simp [evs]; omega
def apAssign : Code := (Code.region 2 #[{ dst := some 5, op := Op.alloc 103, type := 0, pos := "iter.go:51", after := #[], guard := none }, { dst := none, op := Op.store 103 (Operand.tmp 5) (Operand.tmp 7), type := 0, pos := "iter.go:51", after := #[{ on := 0, ground := Ground.data }, { on := 0, ground := Ground.phase }], guard := none }] false)
def apBody : Code := (Code.block 1 (Code.region 3 #[{ dst := some 8, op := Op.load 104 (Operand.tmp 2), type := 104, pos := "iter.go:52", after := #[], guard := none }, { dst := some 9, op := Op.load 103 (Operand.tmp 5), type := 103, pos := "iter.go:52", after := #[], guard := none }, { dst := some 10, op := Op.buildSlice 104 1 #[(0, Operand.tmp 9)], type := 104, pos := "iter.go:52", after := #[{ on := 1, ground := Ground.data }], guard := none }, { dst := some 11, op := Op.call { callee := Callee.builtin Builtin.append, args := #[Operand.tmp 8, Operand.tmp 10], argTypes := #[104, 104] }, type := 104, pos := "iter.go:52", after := #[{ on := 0, ground := Ground.data }, { on := 2, ground := Ground.data }], guard := none }, { dst := none, op := Op.store 104 (Operand.tmp 2) (Operand.tmp 11), type := 0, pos := "iter.go:52", after := #[{ on := 3, ground := Ground.data }, { on := 3, ground := Ground.chain }, { on := 0, ground := Ground.phase }, { on := 1, ground := Ground.phase }, { on := 2, ground := Ground.phase }, { on := 3, ground := Ground.phase }], guard := none }] false))
/-- The loop's record, as AppendSeq enters it. -/
def apRec (fn : FuncId) (sv : Value) (Bs D : Nat) (st : LoopState) (pend : Option Code) : Loop :=
  { state := st, pending := pend, fn, tmps := #[.slice none 0 0, sv, .pointer (some ⟨Bs, 0, none⟩), undef, .slice none 0 0, undef, sv, undef, undef, undef, undef, undef, undef], params := #[7], assign := apAssign, body := apBody, defers := D }
/-- Between two rounds: what has come so far lies in a row of the call's own. -/
structure ApAt (w0 : World) (fn : FuncId) (sv : Value) (Bs l D : Nat) (ss : List (Int × Int)) (W : World) : Prop where
  box : ∃ v, W.heap[Bs]? = some (.cells #[v] 104 (0, 0)) ∧ W.ownsRow w0.heap.size 103 2 v ss.length (ss.flatMap evs)
  L : W.heap[l]? = some (.loop (apRec fn sv Bs D .ready none))
  K : W.heap[D]? = some (.deferred (some []))
  below : Below w0.heap.size w0 W
theorem row_ne {W : World} {base : Nat} {e : TypeId} {size : Nat} {v : Value} {k : Nat} {xs : List Value} (h : W.ownsRow base e size v k xs) {j : Nat} {o : Obj} (hj : W.heap[j]? = some o) (hno : ∀ cur, o ≠ .cells cur e (0, 0)) : ¬ Nst.own v j := fun e2 => by
  obtain ⟨_, ⟨rfl, _⟩ | ⟨g, cap, cur, rfl, _, h4, _⟩⟩ := h
  · cases e2
  · obtain rfl : g = j := Option.some.inj e2
    rw [h4] at hj
    exact hno cur (Option.some.inj hj).symm
theorem put_grown (W : World) (l : Nat) (o : Obj) : W.grownBy (W.putObj l o) (some l) := ⟨rfl, rfl, rfl, by simp, fun k _ hk => World.putObj_heap_other (fun e => hk (by rw [e]))⟩
theorem set_grown (W : World) (b : Nat) (v : Value) : W.grownBy (W.setCell ⟨b, 0, none⟩ v) (some b) := ⟨rfl, rfl, rfl, (KeepsWalks.setCell W _ v).size, fun k _ hk => Below.heap_setCell _ _ _ k (fun e => hk (by rw [e]))⟩
theorem not_walk {W : World} {base : Nat} {e : TypeId} {size : Nat} {v : Value} {k : Nat} {xs : List Value} (h : W.ownsRow base e size v k xs) : ∀ (j : Nat) (o : Obj), v.ownBlock = some j → W.heap[j]? = some o → o.isWalk = false := by
  intro j o hj ho
  obtain ⟨_, ⟨rfl, _⟩ | ⟨g, cap, cur, rfl, _, h4, _⟩⟩ := h
  · cases hj
  · obtain rfl : g = j := Option.some.inj hj
    rw [h4] at ho
    cases ho
    rfl
theorem row_kept {W W' : World} {base : Nat} {e : TypeId} {size : Nat} {v : Value} {k : Nat} {xs : List Value} {r : Nat} (h : W.ownsRow base e size v k xs) (hg : W.grownBy W' (some r)) (hn : ¬ Nst.own v r) : W'.ownsRow base e size v k xs :=
  Nst.own_kept h (fun b e => hg.block b (Nst.own_lt h e).2 (fun e2 => by cases e2; exact hn e))
theorem ap_abides (w0 : World) (fn : FuncId) (sv : Value) (Bs l D B : Nat) (hB : w0.heap.size ≤ B) : AbidesFrom B (ApAt w0 fn sv Bs l D) := fun s W W' row h hg hrow => by
  have hrow' : ∀ r, row = some r → ∃ o : Obj, W.heap[r]? = some o ∧ o.isWalk = true := fun r e => (hrow r e).2
  obtain ⟨v, hv, hr⟩ := h.box
  refine ⟨⟨v, (grownBy_keeps hg hrow' hv rfl).trans hv, Nst.own_kept hr (fun b e => hg.block b (Nst.own_lt hr e).2 (fun e2 => ?_))⟩, (grownBy_keeps hg hrow' h.L rfl).trans h.L, (grownBy_keeps hg hrow' h.K rfl).trans h.K, h.below.grown hg h.below.size (fun k e => Nat.le_trans hB (hrow k e).1)⟩
  obtain ⟨o, ho, hw⟩ := hrow' b e2.symm
  rw [not_walk hr b o e ho] at hw
  cases hw
theorem infoEnds : (Tryz.prog.info? 103).map (fun i => (i.zero, i.size, i.bytes)) = some (some (.agg #[.int .i64 0, .int .i64 0]), 2, 16) := by kernel_rfl
theorem info3 {P : Program} {e : TypeId} {z : Value} {sz bytes : Nat} (h : (P.info? e).map (fun i => (i.zero, i.size, i.bytes)) = some (some z, sz, bytes)) : ∃ i, P.info? e = some i ∧ i.zero = some z ∧ i.size = sz ∧ i.bytes = bytes := by
  cases hi : P.info? e with
  | none => rw [hi] at h; cases h
  | some i =>
    rw [hi] at h
    simp only [Option.map_some, Option.some.injEq, Prod.mk.injEq] at h
    exact ⟨i, rfl, h.1, h.2.1, h.2.2⟩
theorem box_cell {W : World} {B : Nat} {v : Value} {t : TypeId} (h : W.heap[B]? = some (.cells #[v] t (0, 0))) : W.cell? ⟨B, 0, none⟩ = some v ∧ W.frozen? ⟨B, 0, none⟩ = false := by
  constructor <;> simp [World.cell?, World.frozen?, h]
theorem box_set {W : World} {B : Nat} {v : Value} {t : TypeId} (v' : Value) (h : W.heap[B]? = some (.cells #[v] t (0, 0))) : (W.setCell ⟨B, 0, none⟩ v').heap[B]? = some (.cells #[v'] t (0, 0)) := by
  simp [World.setCell, Array.getElem?_modify, h]
set_option maxRecDepth 100000 in
set_option maxHeartbeats 4000000 in
theorem apYield (m : Nat) (w0 : World) (fn : FuncId) (sv : Value) (Bs l D : Nat) (hBl : Bs ≠ l) (hDl : D ≠ l) (hDB : D ≠ Bs) (h0B : w0.heap.size ≤ Bs) (h0l : w0.heap.size ≤ l)
    (N : Nat) (hN : N ≤ 1000000000000) (ss : List (Int × Int)) (x : Int × Int) (W : World) (h : ApAt w0 fn sv Bs l D ss W) (hlen : ss.length < N) :
    YieldAt Fence.wide m Tryz.prog l #[kv x] W fun e W' => e = .returned (.bool true) ∧ ApAt w0 fn sv Bs l D (ss ++ [x]) W' ∧ KeepsWalks W W' := by
  obtain ⟨i0, hi, hz0, hz1, hz2⟩ := info3 infoEnds
  obtain ⟨v, hv, hrow⟩ := h.box
  refine ⟨fn, #[.slice none 0 0, sv, .pointer (some ⟨Bs, 0, none⟩), undef, .slice none 0 0, undef, sv, kv x, undef, undef, undef, undef, undef], apAssign, apBody, by simpa [apRec] using run_yield (P := Tryz.prog) (args := #[kv x]) h.L rfl, roundIn_of_wpIn trivial ?_⟩
  have hl : l < W.heap.size := (Array.getElem?_eq_some_iff.1 h.L).1
  have hBlt : Bs < W.heap.size := (Array.getElem?_eq_some_iff.1 hv).1
  have hDlt : D < W.heap.size := (Array.getElem?_eq_some_iff.1 h.K).1
  have halc : ∀ k, k < W.heap.size → (W.alloc (.cells #[.int .i64 x.1, .int .i64 x.2] 103)).heap[k]? = W.heap[k]? := fun k hk => Below.heap_alloc W _ k hk
  have hLv := (halc l hl).trans h.L
  have hbr := run_beginRound (P := Tryz.prog) hLv rfl
  obtain ⟨W2, hW2⟩ : ∃ W2, (W.alloc (.cells #[.int .i64 x.1, .int .i64 x.2] 103)).putObj l (.loop { apRec fn sv Bs D .ready none with state := .busy }) = W2 := ⟨_, rfl⟩
  rw [hW2] at hbr
  have hg2 : (W.alloc (.cells #[.int .i64 x.1, .int .i64 x.2] 103)).grownBy W2 (some l) := by rw [← hW2]; exact put_grown _ _ _
  have hk2 : KeepsWalks W W2 := by rw [← hW2]; exact (KeepsWalks.alloc W _).trans (KeepsWalks.putObj _ hLv rfl)
  have hkp : ∀ k, k < W.heap.size → k ≠ l → W2.heap[k]? = W.heap[k]? := fun k hk hne => by rw [← hW2]; exact (World.putObj_heap_other hne).trans (halc k hk)
  have hv2 := (hkp Bs hBlt hBl).trans hv
  have hK2 := (hkp D hDlt hDl).trans h.K
  have hL2 : W2.heap[l]? = some (.loop { apRec fn sv Bs D .ready none with state := .busy }) := by rw [← hW2]; exact World.putObj_heap_same (by simp; omega)
  have hs2 : W2.heap.size = W.heap.size + 1 := by rw [← hW2]; simp
  have hV2 : W2.heap[W.heap.size]? = some (.cells #[.int .i64 x.1, .int .i64 x.2] 103) := by rw [← hW2]; exact (World.putObj_heap_other (by omega)).trans (heap_alloc_new W _)
  have hrow2 : W2.ownsRow w0.heap.size 103 2 v ss.length (ss.flatMap evs) := Nst.own_kept hrow (fun b e => hkp b (Nst.own_lt hrow e).2 (fun e2 => row_ne hrow h.L (fun cur e3 => by cases e3) (e2 ▸ e)))
  have hb2 : Below w0.heap.size w0 W2 := ((h.below.alloc h.below.size _).grown hg2 (by have := h.below.size; simp; omega) (fun k e => by cases e; exact h0l))
  obtain ⟨hc2, hf2⟩ := box_cell hv2
  have u1 : W2.cell? ⟨W.heap.size, 0, none⟩ = some (.int .i64 x.1) := by simp [World.cell?, hV2]
  have u2 : W2.cell? ⟨W.heap.size, 1, none⟩ = some (.int .i64 x.2) := by simp [World.cell?, hV2]
  have nB : ¬ Nst.own v Bs := row_ne hrow2 hv2 (fun cur e => by cases e)
  have nL : ¬ Nst.own v l := row_ne hrow2 hL2 (fun cur e => by cases e)
  have nD : ¬ Nst.own v D := row_ne hrow2 hK2 (fun cur e => by cases e)
  have hB2 : Bs < W2.heap.size := by omega
  have hl2 : l < W2.heap.size := by omega
  have hD2 : D < W2.heap.size := by omega
  have hb2s := hb2.size
  have hXl : W.heap.size < W2.heap.size := by omega
  clear hW2 hV2 hs2
  unfold apAssign
  unfold kv
  gi_wp2_with (rw [Oper.semAt_eq _ _ _ (fun c h => by cases h)]; go_simp; try go_bits)

  unfold apBody
  gi_wp2_with (first
    | (gi_at_builtin; refine wpListIn_append_own _ rfl _ _ 104 rfl w0.heap.size 103 i0 (.agg #[.int .i64 0, .int .i64 0]) 2 16 Tryz.underlying104 hi hz0 hz1 hz2 rfl (by decide) _ _ _ rfl (hrow2.alloc _) ⟨W2.heap.size, 0, none⟩ 1 1 (evs x) rfl rfl (World.news_of_block (cs := #[.int .i64 x.1, .int .i64 x.2]) (t := 103) (fr := (0, 0)) (heap_alloc_new W2 _)) (by simp [Value.oneCell', evs]) (by unfold maxLen; omega) (by omega) (by simp; omega) ?_; intro v' w3 hown' hg3 hnil3
       have hv3 : w3.heap[Bs]? = some (.cells #[v] 104 (0, 0)) := (hg3.block Bs (by simp; omega) (fun e => nB e.symm)).trans ((Below.heap_alloc _ _ Bs hB2).trans hv2)
       obtain ⟨hc3, hf3⟩ := box_cell hv3
       obtain ⟨a3, c3, rfl⟩ := Nst.own_slice hown'
       go_frame)
    | (rw [Oper.semAt_eq _ _ _ (fun c h => by cases h)]; go_simp; try go_bits))
  have hk3 : ∀ k, k < W2.heap.size → ¬ Nst.own v k → w3.heap[k]? = W2.heap[k]? := fun k hk hn => (hg3.block k (by simp; omega) (fun e => hn e.symm)).trans (Below.heap_alloc _ _ k hk)
  have hL3 := (hk3 l hl2 nL).trans hL2
  have hK3 := (hk3 D hD2 nD).trans hK2
  have hz3 := hg3.size
  have hb3 : Below w0.heap.size w0 w3 := (hb2.alloc hb2.size _).grown hg3 (by have := hb2.size; simp; omega) (fun k e => (Nst.own_lt hrow2 e).1)
  have nB3 : ¬ Nst.own (.slice a3 (ss.length + 1) c3) Bs := row_ne hown' hv3 (fun cur e => by cases e)
  obtain ⟨w4, hw4⟩ : ∃ w4, w3.setCell ⟨Bs, 0, none⟩ (.slice a3 (ss.length + 1) c3) = w4 := ⟨_, rfl⟩
  have hg4 : w3.grownBy w4 (some Bs) := by rw [← hw4]; exact set_grown _ _ _
  have hv4 : w4.heap[Bs]? = some (.cells #[.slice a3 (ss.length + 1) c3] 104 (0, 0)) := by rw [← hw4]; exact box_set _ hv3
  have hk4 : KeepsWalks w3 w4 := by rw [← hw4]; exact KeepsWalks.setCell _ _ _
  have hL4 : w4.heap[l]? = some (.loop { apRec fn sv Bs D .ready none with state := .busy }) := by rw [← hw4]; exact (Below.heap_setCell _ _ _ l (fun e => hBl e.symm)).trans hL3
  have hK4 : w4.heap[D]? = some (.deferred (some [])) := by rw [← hw4]; exact (Below.heap_setCell _ _ _ D (fun e => hDB e)).trans hK3
  rw [hw4]
  have hrow4 := row_kept hown' hg4 nB3
  have hb4 : Below w0.heap.size w0 w4 := hb3.grown hg4 hb3.size (fun k e => by cases e; exact h0B)
  have hl4 : l < w4.heap.size := (Array.getElem?_eq_some_iff.1 hL4).1
  have nL4 : ¬ Nst.own (.slice a3 (ss.length + 1) c3) l := row_ne hrow4 hL4 (fun cur e => by cases e)
  refine ⟨_, _, run_endRound none hL4, rfl, ⟨⟨_, (World.putObj_heap_other hBl).trans hv4, ?_⟩, World.putObj_heap_same hl4, (World.putObj_heap_other hDl).trans hK4, hb4.grown (put_grown _ _ _) hb4.size (fun k e => by cases e; exact h0l)⟩, ((hk2.trans ((KeepsWalks.alloc _ _).trans (KeepsWalks.of_grownBy hg3 (not_walk (hrow2.alloc _))))).trans hk4).trans (KeepsWalks.putObj _ hL4 rfl)⟩
  have := row_kept hrow4 (put_grown w4 l (.loop { { apRec fn sv Bs D .ready none with state := .busy } with state := if (none : Option Code).isNone then .ready else .done, pending := none })) nL4
  rw [List.length_append, List.length_singleton, List.flatMap_append]
  simpa using this
set_option maxRecDepth 100000 in
set_option maxHeartbeats 4000000 in
theorem appendSeq (n : Nat) (hn : 2 ≤ n) (g : Nat) (lb : Array Value) (eg : ∀ args w, (callFunc g args).run Tryz.prog w = .ok (.enter g args) w) (S : List (Int × Int) → Prop) (N : Nat) (hN : N ≤ 1000000000000) (w : World) (hseq : SeqGives Fence.wide (n - 1) Tryz.prog g lb kv S N w) :
    CallsIn Fence.wide n Tryz.prog 97 #[.slice none 0 0, .func (.func g) #[] lb] w fun e w' => ∃ (v : Value) (ss : List (Int × Int)), e = .returned v ∧ S ss ∧ w'.ownsRow w.heap.size 103 2 v ss.length (ss.flatMap evs) ∧ Below w.heap.size w w' := by
  refine callsIn_of_wp_marks Tryz.func97 rfl trivial ?_ rfl
  simp only [Tryz.ntmps97, List.size_toArray, List.length_cons, List.length_nil, Nat.reduceAdd, Nat.reduceSub, Array.replicate_succ, Array.replicate_zero, List.push_toArray, List.append_toArray, List.nil_append, List.cons_append]
  gi_wp2
  refine wpIn_rangeFunc ?_
  intro fn hfn
  obtain ⟨W0, hW0⟩ : ∃ W0, w.alloc (.cells #[.slice none 0 0] 104) = W0 := ⟨_, rfl⟩
  have hs0 : W0.heap.size = w.heap.size + 1 := by rw [← hW0]; simp
  have hv0 : W0.heap[w.heap.size]? = some (.cells #[.slice none 0 0] 104 (0, 0)) := by rw [← hW0]; exact heap_alloc_new w _
  have hb0 : Below w.heap.size w W0 := by rw [← hW0]; exact (Below.refl _ w).alloc (Nat.le_refl _) _
  rw [hW0]
  obtain ⟨W1, hW1⟩ : ∃ W1, (W0.alloc (.deferred (some []))).alloc (.loop (apRec fn (.func (.func g) #[] lb) w.heap.size W0.heap.size .ready none)) = W1 := ⟨_, rfl⟩
  have hold : ∀ k, k < W0.heap.size → W1.heap[k]? = W0.heap[k]? := fun k hk => by
    rw [← hW1]; exact (Below.heap_alloc _ _ k (by simp; omega)).trans (Below.heap_alloc _ _ k hk)
  have hb1 : Below w.heap.size w W1 := by rw [← hW1]; exact (hb0.alloc hb0.size _).alloc (by have := hb0.size; simp; omega) _
  have hM : ApAt w fn (.func (.func g) #[] lb) w.heap.size (W0.heap.size + 1) W0.heap.size [] W1 :=
    ⟨⟨_, (hold w.heap.size (by omega)).trans hv0, World.ownsRow_nil _ _ _ _⟩,
     by rw [← hW1]; have := heap_alloc_new (W0.alloc (.deferred (some []))) (.loop (apRec fn (.func (.func g) #[] lb) w.heap.size W0.heap.size .ready none)); rwa [World.size_alloc] at this,
     by rw [← hW1]; exact (Below.heap_alloc _ _ _ (by simp)).trans (heap_alloc_new W0 _), hb1⟩
  refine ⟨W0.heap.size + 1, [{ target := .collected W0.heap.size, args := #[] }], W1, { target := .fn (.func g) lb, args := #[.func (.yield (W0.heap.size + 1)) #[] #[]] }, W1, g,
    #[.func (.yield (W0.heap.size + 1)) #[] #[]] ++ lb, W1, ?_, ?_, ?_, ?_, fun h => (by cases h), ?_⟩
  · rw [← hW1]; exact run_enterLoop_outer _ _ _ _ _
  · simp [resolve, go_sem]
  · intro f' hf'; trivial
  · simp [invoke, go_sem, eg]
  · refine (hseq (W0.heap.size + 1) (ApAt w fn (.func (.func g) #[] lb) w.heap.size (W0.heap.size + 1) W0.heap.size) W1 hb1 (ap_abides _ _ _ _ _ _ _ hb1.size)
      (fun pre x W hJ hl => apYield (n - 1 - 1) w fn _ w.heap.size (W0.heap.size + 1) W0.heap.size (by omega) (by omega) (by omega) (Nat.le_refl _) (by omega) N hN pre x W hJ hl) hM).mono ?_
    rintro e W2 ⟨⟨v0, rfl⟩, ss, hS, h2⟩
    obtain ⟨v, hv, hrow⟩ := h2.box
    have hend := run_endLoop (P := Tryz.prog) h2.L (by simp [apRec])
    obtain ⟨W3, hW3⟩ : ∃ W3, W2.putObj (W0.heap.size + 1) (.loop { apRec fn (.func (.func g) #[] lb) w.heap.size W0.heap.size .ready none with state := .exhausted }) = W3 := ⟨_, rfl⟩
    rw [hW3] at hend
    have hg3 : W2.grownBy W3 (some (W0.heap.size + 1)) := by rw [← hW3]; exact put_grown _ _ _
    have hv3 : W3.heap[w.heap.size]? = some (.cells #[v] 104 (0, 0)) := by rw [← hW3]; exact (World.putObj_heap_other (by omega)).trans hv
    have hK3 : W3.heap[W0.heap.size]? = some (.deferred (some [])) := by rw [← hW3]; exact (World.putObj_heap_other (by omega)).trans h2.K
    have hrow3 := row_kept hrow hg3 (row_ne hrow h2.L (fun cur e => by cases e))
    have hb3 : Below w.heap.size w W3 := h2.below.grown hg3 h2.below.size (fun k e => by cases e; omega)
    obtain ⟨hc3, hf3⟩ := box_cell hv3
    clear hW3
    refine ⟨none, W3, hend, ?_⟩
    gi_wp2
    rw [← hs0]
    refine ⟨by simp, .inl ⟨_, _, rfl, run_takeDeferred hK3, ?_⟩⟩
    exact ⟨_, results_tmp rfl _ _ _, v, ss, rfl, hS, row_kept hrow3 (put_grown _ _ _) (row_ne hrow3 hK3 (fun cur e => by cases e)), hb3.grown (put_grown _ _ _) hb3.size (fun k e => by cases e; omega)⟩
set_option maxRecDepth 100000 in
set_option maxHeartbeats 1000000 in
theorem collect (g : Nat) (lb : Array Value) (eg : ∀ args w, (callFunc g args).run Tryz.prog w = .ok (.enter g args) w) (S : List (Int × Int) → Prop) (N : Nat) (hN : N ≤ 1000000000000) (w : World) (hseq : SeqGives Fence.wide 4 Tryz.prog g lb kv S N w) :
    Calls Tryz.prog 79 #[.func (.func g) #[] lb] w fun e w' => ∃ (v : Value) (ss : List (Int × Int)), e = .returned v ∧ S ss ∧ w'.ownsRow w.heap.size 103 2 v ss.length (ss.flatMap evs) ∧ Below w.heap.size w w' := by
  have HA := hid (callsIn_wide.1 (appendSeq 5 (by omega) g lb eg S N hN w hseq))
  clear hseq
  go_enter Tryz.func79, Tryz.ntmps79
  go_wp2_with fail
  refine HA.out.mono ?_
  rintro e w1 ⟨v, ss, rfl, hS, hr, hb⟩
  go_wp2
  go_ret
  exact ⟨v, ss, rfl, hS, hr, hb⟩
end Mp
end Go.Proofs.YtfgckeoigkoflaaGreatDoor
/- The program's order of the ends of flows: cmp.Compare and cmp.Or. -/
namespace Go.Proofs.YtfgckeoigkoflaaGreatDoor
open Go.RowKit
set_option linter.unusedVariables false
namespace Gr
open Ex (hid)
/-- Which of two numbers comes first. -/
def cmpI (x y : Int) : Int := if x < y then -1 else if y < x then 1 else 0
/-- Which of two pairs of ends comes first. -/
def cmpE (x y : Int × Int) : Int := if cmpI x.1 y.1 ≠ 0 then cmpI x.1 y.1 else cmpI x.2 y.2
theorem cmpI_lt {x y : Int} : cmpI x y < 0 ↔ x < y := by
  unfold cmpI
  by_cases h : x < y
  · simp [h]
  · by_cases h2 : y < x <;> simp [h, h2]
theorem cmpI_zero {x y : Int} : cmpI x y = 0 ↔ x = y := by
  unfold cmpI
  by_cases h : x < y
  · simp [h]; omega
  · by_cases h2 : y < x
    · simp [h, h2]; omega
    · simp [h, h2]; omega
theorem cmpE_lt {x y : Int × Int} : cmpE x y < 0 ↔ x.1 < y.1 ∨ (x.1 = y.1 ∧ x.2 < y.2) := by
  unfold cmpE
  by_cases h : cmpI x.1 y.1 = 0
  · rw [if_neg (by simp [h]), cmpI_lt]
    have := cmpI_zero.1 h
    omega
  · rw [if_pos h, cmpI_lt]
    have : ¬ x.1 = y.1 := fun e => h (cmpI_zero.2 e)
    omega
set_option maxRecDepth 100000 in
set_option maxHeartbeats 400000 in
theorem implNaN (x : Int) (w : World) : Calls Tryz.prog 100 #[.int .i64 x] w fun e w' => e = .returned (.bool false) ∧ w' = w := by
  go_enter Tryz.func100, Tryz.ntmps100
  go_wp2
  go_ret
  exact ⟨by simp, rfl⟩
set_option maxRecDepth 100000 in
set_option maxHeartbeats 1000000 in
theorem implCompare (x y : Int) (w : World) : Calls Tryz.prog 83 #[.int .i64 x, .int .i64 y] w fun e w' => e = .returned (.int .i64 (cmpI x y)) ∧ w' = w := by
  by_cases h1 : x < y
  · have HV : Hid (cmpI x y = -1) := hid (by unfold cmpI; rw [if_pos h1])
    go_enter Tryz.func83, Tryz.ntmps83
    go_wp2_with (go_at_call 100; refine (implNaN _ _).mono ?_; rintro e w' ⟨rfl, rfl⟩)
    go_ret
    exact ⟨by rw [HV.out]; rfl, rfl⟩
  by_cases h2 : y < x
  · have HV : Hid (cmpI x y = 1) := hid (by unfold cmpI; rw [if_neg h1, if_pos h2])
    go_enter Tryz.func83, Tryz.ntmps83
    go_wp2_with (go_at_call 100; refine (implNaN _ _).mono ?_; rintro e w' ⟨rfl, rfl⟩)
    go_ret
    exact ⟨by rw [HV.out]; rfl, rfl⟩
  · have HV : Hid (cmpI x y = 0) := hid (by unfold cmpI; rw [if_neg h1, if_neg h2])
    go_enter Tryz.func83, Tryz.ntmps83
    go_wp2_with (go_at_call 100; refine (implNaN _ _).mono ?_; rintro e w' ⟨rfl, rfl⟩)
    go_ret
    exact ⟨by rw [HV.out]; rfl, rfl⟩
end Gr
end Go.Proofs.YtfgckeoigkoflaaGreatDoor
/- The program's order of the ends of flows: cmp.Or. -/
namespace Go.Proofs.YtfgckeoigkoflaaGreatDoor
open Go.RowKit
set_option linter.unusedVariables false
namespace Gr
open Ex (hid)
set_option maxRecDepth 100000 in
set_option maxHeartbeats 1000000 in
theorem implOr (a b : Int) (B : Nat) (w : World) (h0 : w.cell? ⟨B, 0, none⟩ = some (.int .i64 a)) (h1 : w.cell? ⟨B, 1, none⟩ = some (.int .i64 b)) : Calls Tryz.prog 82 #[.slice (some ⟨B, 0, none⟩) 2 2] w fun e w' => e = .returned (.int .i64 (if a ≠ 0 then a else b)) ∧ w' = w := by
  obtain ⟨r, hr⟩ : ∃ r, r = if a ≠ 0 then a else b := ⟨_, rfl⟩
  rw [← hr]
  have HR := hid hr
  clear hr
  go_enter Tryz.func82, Tryz.ntmps82
  go_wp2
  go_loop [5, 8] (fun x i => ∃ k : Nat, i = .int .i64 k ∧ k ≤ 2 ∧ (∃ y, x = y) ∧ Hid (0 < k → a = 0) ∧ Hid (1 < k → b = 0)) (fun _ i => 2 - (intOf i).toNat)
  case atStart => exact ⟨0, rfl, by omega, ⟨_, rfl⟩, hid (fun h => by omega), hid (fun h => by omega)⟩
  case round =>
    obtain ⟨k, rfl, hk, ⟨y, rfl⟩, HA, HB⟩ := hrel
    obtain rfl | rfl | rfl : k = 0 ∨ k = 1 ∨ k = 2 := by omega
    · by_cases ha : a = 0
      · have b1 : (a != 0) = false := by simp [ha]
        have HA0 := hid ha
        clear ha
        go_wp2
        exact ⟨⟨1, by simp, by omega, ⟨_, rfl⟩, hid (fun _ => HA0.out), hid (fun h => by omega)⟩, by simp [intOf]⟩
      · have b1 : (a != 0) = true := by simp [ha]
        have HV : Hid (r = a) := hid (by rw [HR.out, if_pos ha])
        clear ha
        go_wp2
        go_ret
        exact ⟨by rw [HV.out]; rfl, rfl⟩
    · have ha := HA.out (by omega)
      have HV : Hid (r = b) := hid (by rw [HR.out, if_neg (by simp [ha])])
      by_cases hb : b = 0
      · have b1 : (b != 0) = false := by simp [hb]
        have HB0 := hid hb
        have HA0 := hid ha
        clear ha hb
        go_wp2
        exact ⟨⟨2, by simp, by omega, ⟨_, rfl⟩, hid (fun _ => HA0.out), hid (fun h => HB0.out)⟩, by simp [intOf]⟩
      · have b1 : (b != 0) = true := by simp [hb]
        clear ha hb
        go_wp2
        go_ret
        exact ⟨by rw [HV.out]; rfl, rfl⟩
    · have HV : Hid (r = 0) := hid (by rw [HR.out, HA.out (by omega), HB.out (by omega)]; rfl)
      go_wp2
      go_ret
      exact ⟨by rw [HV.out]; rfl, rfl⟩
end Gr
end Go.Proofs.YtfgckeoigkoflaaGreatDoor
