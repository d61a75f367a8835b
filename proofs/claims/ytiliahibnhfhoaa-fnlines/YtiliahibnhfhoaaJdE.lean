/- Draws of chapter 13: a line, good or bad. No condition. -/
import Derived.Test.YtiliahibnhfhoaaJdC
namespace Go.Proofs.Ytiliahibnhfhoaa
open Go.RowKit
set_option linter.unusedVariables false
namespace Jn
/-- Amid the draw of a line: the source, and what has been laid. -/
structure Lk (w wr : World) (a : Option Addr) (len cap p : Nat) (bs : List (Nat × Array Value × TypeId)) : Prop where
  st : Below w.heap.size w wr
  src : Drw.Src wr w.heap.size a len cap p
  b : ∀ q ∈ bs, wr.heap[q.1]? = some (.cells q.2.1 q.2.2 (0, 0)) ∧ w.heap.size < q.1
theorem Lk.add {w wr wn : World} {a : Option Addr} {len cap p : Nat} {bs : List (Nat × Array Value × TypeId)} (h : Lk w wr a len cap p bs) {C : Array Value} {T : TypeId} (e : wn = wr.alloc (.cells C T)) : Lk w wn a len cap p ((wr.heap.size, C, T) :: bs) := by
  subst e
  have hlt := blk_lt h.src
  refine ⟨h.st.alloc h.st.size _, (Below.heap_alloc _ _ _ hlt).trans h.src, fun q hq => ?_⟩
  rcases List.mem_cons.1 hq with rfl | hq
  · exact ⟨heap_alloc_new wr _, hlt⟩
  · exact ⟨(Below.heap_alloc _ _ _ (blk_lt (h.b q hq).1)).trans (h.b q hq).1, (h.b q hq).2⟩
theorem Lk.turn {w wr wn : World} {a : Option Addr} {len cap p p' : Nat} {bs : List (Nat × Array Value × TypeId)} (h : Lk w wr a len cap p bs) (hg : wr.grownBy wn (some w.heap.size)) (hs : Drw.Src wn w.heap.size a len cap p') : Lk w wn a len cap p' bs :=
  ⟨h.st.grown hg h.st.size (fun b e => by have := Option.some.inj e; omega), hs, fun q hq => ⟨(hg.block _ (blk_lt (h.b q hq).1) (fun e => by have := Option.some.inj e; have := (h.b q hq).2; omega)).trans (h.b q hq).1, (h.b q hq).2⟩⟩
theorem Lk.hd {w wr : World} {a : Option Addr} {len cap p g : Nat} {C : Array Value} {T : TypeId} {bs : List (Nat × Array Value × TypeId)} (h : Lk w wr a len cap p ((g, C, T) :: bs)) : wr.heap[g]? = some (.cells C T (0, 0)) := (h.b _ (List.mem_cons_self ..)).1
theorem seven_at {w : World} {g r : Nat} {sz s9 s11 : ByteArray} (h : w.heap[g]? = some (.cells #[.string ⟨#[97, 98, 99]⟩, .string ⟨#[]⟩, .string ⟨#[97, 9, 98]⟩, .string ⟨#[126, 32, 120]⟩, .string sz, .string s9, .string s11] 9 (0, 0)))
    (hz : ∃ x : List UInt8, x.length ≤ 41 ∧ sz = str x) (h9 : ∃ x : List UInt8, x.length ≤ 41 ∧ s9 = str x) (h11 : ∃ x : List UInt8, x.length ≤ 41 ∧ s11 = str x) (hr : r < 7) : ∃ (s : ByteArray) (x : List UInt8), x.length ≤ 41 ∧ s = str x ∧ w.cell? ⟨g, r, none⟩ = some (.string s) := by
  match r, hr with
  | 0, _ => exact ⟨_, [97, 98, 99], by decide, rfl, blk_cell h rfl⟩
  | 1, _ => exact ⟨_, [], by decide, rfl, blk_cell h rfl⟩
  | 2, _ => exact ⟨_, [97, 9, 98], by decide, rfl, blk_cell h rfl⟩
  | 3, _ => exact ⟨_, [126, 32, 120], by decide, rfl, blk_cell h rfl⟩
  | 4, _ => obtain ⟨x, hx, e⟩ := hz; exact ⟨_, x, hx, e, blk_cell h rfl⟩
  | 5, _ => obtain ⟨x, hx, e⟩ := h9; exact ⟨_, x, hx, e, blk_cell h rfl⟩
  | 6, _ => obtain ⟨x, hx, e⟩ := h11; exact ⟨_, x, hx, e, blk_cell h rfl⟩
theorem key41 : ∀ j, j < 41 → (madeCells (Value.int .u8 0).cells (41 * 1))[j]? = some (vb 0)
  | 0, _ => by kernel_rfl
  | 1, _ => by kernel_rfl
  | 2, _ => by kernel_rfl
  | 3, _ => by kernel_rfl
  | 4, _ => by kernel_rfl
  | 5, _ => by kernel_rfl
  | 6, _ => by kernel_rfl
  | 7, _ => by kernel_rfl
  | 8, _ => by kernel_rfl
  | 9, _ => by kernel_rfl
  | 10, _ => by kernel_rfl
  | 11, _ => by kernel_rfl
  | 12, _ => by kernel_rfl
  | 13, _ => by kernel_rfl
  | 14, _ => by kernel_rfl
  | 15, _ => by kernel_rfl
  | 16, _ => by kernel_rfl
  | 17, _ => by kernel_rfl
  | 18, _ => by kernel_rfl
  | 19, _ => by kernel_rfl
  | 20, _ => by kernel_rfl
  | 21, _ => by kernel_rfl
  | 22, _ => by kernel_rfl
  | 23, _ => by kernel_rfl
  | 24, _ => by kernel_rfl
  | 25, _ => by kernel_rfl
  | 26, _ => by kernel_rfl
  | 27, _ => by kernel_rfl
  | 28, _ => by kernel_rfl
  | 29, _ => by kernel_rfl
  | 30, _ => by kernel_rfl
  | 31, _ => by kernel_rfl
  | 32, _ => by kernel_rfl
  | 33, _ => by kernel_rfl
  | 34, _ => by kernel_rfl
  | 35, _ => by kernel_rfl
  | 36, _ => by kernel_rfl
  | 37, _ => by kernel_rfl
  | 38, _ => by kernel_rfl
  | 39, _ => by kernel_rfl
  | 40, _ => by kernel_rfl
  | n + 41, h => absurd h (by omega)
theorem zero41 : ∃ zs : Array Value, madeCells (Value.int .u8 0).cells (41 * 1) = zs ∧ ∀ (w : World) (g : Nat), w.heap[g]? = some (.cells zs 5 (0, 0)) → Sem.run Try.prog (convert 24 9 (.slice (some ⟨g, 0, none⟩) 41 41)) w = .ok (.string (str (List.replicate 41 0))) w := by
  refine ⟨_, rfl, fun w g h => ?_⟩
  have hat : At w (g + 1) (.slice (some ⟨g, 0, none⟩) 41 41) (List.replicate 41 (0 : UInt8)) := by
    refine ⟨some ⟨g, 0, none⟩, 41, rfl, by decide, fun j hj => ⟨g, 0, rfl, Nat.lt_succ_self g, ?_⟩⟩
    rw [List.length_replicate] at hj
    rw [Nat.zero_add, List.getElem_replicate]
    refine blk_cell h ?_
    exact key41 j hj
  exact hat.str
set_option maxRecDepth 100000 in
set_option maxHeartbeats 16000000 in
theorem lineFaultD (len cap : Nat) (a : Option Addr) (w : World) (hln : len ≤ 1048576) (hc : Drw.CodeAt w.heap.size w a len) :
    Calls Try.prog 72 #[.slice a len cap] w fun e w' => ∃ x : List UInt8, x.length ≤ 41 ∧ e = .returned (.string (str x)) ∧ Below w.heap.size w w' := by
  have hcode := hid (fun w' (hb : Below w.heap.size w w') => code_below hc hb (Nat.le_refl _))
  obtain ⟨zs, hzs, hconv⟩ := zero41
  have hmake : ∀ wx : World, (Instr.makeSlice 24 (.int .i64 41) (.int .i64 41)).run Try.prog wx = .ok (.slice (some ⟨wx.heap.size, 0, none⟩) 41 41) (wx.alloc (.cells zs 5)) := by
    intro wx
    have h := make_row (P := Try.prog) Try.underlying24 info8 41 (by omega) (by omega) wx
    rw [hzs] at h
    exact h
  clear hzs hc
  go_enter Try.func72, Try.ntmps72
  go_wp2_with fail
  refine (Drw.source a len cap _).mono ?_
  rintro e w1 ⟨rfl, hw1⟩
  have HL0' : Lk w w1.drew a len cap 0 [] := by
    rw [hw1]
    exact ⟨((Below.refl _ w).alloc (Nat.le_refl _) _).drew, heap_alloc_new w _, fun q hq => by cases hq⟩
  have HL0 := hid HL0'
  clear hw1 HL0'
  go_upto_region 2 with fail
  generalize hsz : str (List.replicate 41 (0 : UInt8)) = sz at hconv
  have HSZ : Hid (∃ x : List UInt8, x.length ≤ 41 ∧ sz = str x) := hid ⟨List.replicate 41 0, by decide, hsz.symm⟩
  clear hsz
  refine wp_region_held_drew (S := fun wx => Below w.heap.size w wx) (by kernel_rfl) HL0.out.st (fun hHeld => ?_)
  obtain ⟨wd, hwd⟩ : ∃ wd, wd = w1.drew := ⟨_, rfl⟩
  rw [← hwd] at HL0
  rw [← hwd]
  clear hwd
  have hbd := HL0.out.st
  refine wpAnyH_take (i := 2) (oi := { dst := some 8, op := Go.Op.move (Go.Operand.tmp 3), type := 80, pos := "l13_journal.go:160", after := #[], guard := none }) (v := .pointer (some ⟨w.heap.size, 0, none⟩)) rfl (by kernel_rfl) (by kernel_rfl) (by kernel_rfl) (fun _ _ _ h => h) (Or.inl ⟨by rfl, by intro w hSw; (try dsimp only at hSw); go_simp⟩) (by assumption) ?_
  simp only [Act.put, List.setIfInBounds_toArray, List.set_cons_zero, List.set_cons_succ]
  refine wpAnyH_take (i := 4) (oi := { dst := some 10, op := Go.Op.move (Go.Operand.tmp 3), type := 80, pos := "l13_journal.go:160", after := #[], guard := none }) (v := .pointer (some ⟨w.heap.size, 0, none⟩)) rfl (by kernel_rfl) (by kernel_rfl) (by kernel_rfl) (fun _ _ _ h => h) (Or.inl ⟨by rfl, by intro w hSw; (try dsimp only at hSw); go_simp⟩) (by assumption) ?_
  simp only [Act.put, List.setIfInBounds_toArray, List.set_cons_zero, List.set_cons_succ]
  refine wpAnyH_take (i := 7) (oi := { dst := some 13, op := Go.Op.move (Go.Operand.tmp 3), type := 80, pos := "l13_journal.go:160", after := #[], guard := none }) (v := .pointer (some ⟨w.heap.size, 0, none⟩)) rfl (by kernel_rfl) (by kernel_rfl) (by kernel_rfl) (fun _ _ _ h => h) (Or.inl ⟨by rfl, by intro w hSw; (try dsimp only at hSw); go_simp⟩) (by assumption) ?_
  simp only [Act.put, List.setIfInBounds_toArray, List.set_cons_zero, List.set_cons_succ]
  refine wpAnyH_ready (rs := [0, 3]) (by kernel_rfl) (by simp) ?_
  refine AllReadyH.cons (o := { dst := some 6, op := Go.Op.makeSlice 24 (Go.Operand.const (Go.Value.int Go.IntKind.i64 41)) (Go.Operand.const (Go.Value.int Go.IntKind.i64 41)), type := 24, pos := "l13_journal.go:160", after := #[], guard := none }) rfl (fun K hK => ?_) (AllReadyH.cons (o := { dst := some 9, op := Go.Op.call { callee := Go.Callee.value (Go.Operand.func 78), args := #[Go.Operand.tmp 8], argTypes := #[80] }, type := 9, pos := "l13_journal.go:160", after := #[{ on := 2, ground := Go.Ground.data }], guard := none }) rfl (fun K hK => ?_) AllReadyH.nil)
  · have hmk := hmake wd
    go_simp
    obtain ⟨t1, hw1⟩ : ∃ wn, wn = wd.alloc (.cells zs 5) := ⟨_, rfl⟩
    rw [← hw1]
    have HL1 := hid (HL0.out.add hw1)
    clear hw1 hmk
    refine hK.out _ _ HL1.out.st (fun hHeld => ?_)
    clear hK K
    try simp only [Act.put, List.setIfInBounds_toArray, List.set_cons_zero, List.set_cons_succ]
    refine wpAnyH_ready (rs := [1, 3]) (by kernel_rfl) (by simp) ?_
    refine AllReadyH.cons (o := { dst := some 7, op := Go.Op.convert 24 9 (Go.Operand.tmp 6), type := 9, pos := "l13_journal.go:160", after := #[{ on := 0, ground := Go.Ground.data }], guard := none }) rfl (fun K hK => ?_) (AllReadyH.cons (o := { dst := some 9, op := Go.Op.call { callee := Go.Callee.value (Go.Operand.func 78), args := #[Go.Operand.tmp 8], argTypes := #[80] }, type := 9, pos := "l13_journal.go:160", after := #[{ on := 2, ground := Go.Ground.data }], guard := none }) rfl (fun K hK => ?_) AllReadyH.nil)
    · have hcv := hconv _ _ (HL1.out.b _ (List.mem_cons_self ..)).1
      dsimp only at hcv
      go_simp
      clear hcv
      refine hK.out _ _ HL1.out.st (fun hHeld => ?_)
      clear hK K
      try simp only [Act.put, List.setIfInBounds_toArray, List.set_cons_zero, List.set_cons_succ]
      refine wpAnyH_ready (rs := [3]) (by kernel_rfl) (by simp) ?_
      refine AllReadyH.cons (o := { dst := some 9, op := Go.Op.call { callee := Go.Callee.value (Go.Operand.func 78), args := #[Go.Operand.tmp 8], argTypes := #[80] }, type := 9, pos := "l13_journal.go:160", after := #[{ on := 2, ground := Go.Ground.data }], guard := none }) rfl (fun K hK => ?_) AllReadyH.nil
      go_simp
      go_at_call 78
      refine (lineD w.heap.size w.heap.size len cap 0 a _ HL1.out.src (hcode.out _ HL1.out.st) (Nat.le_refl _) (by omega) (by omega)).mono ?_
      rintro z t3 ⟨x, hx, rfl, hs, hg⟩
      have HL3 := hid (HL1.out.turn hg hs)
      obtain ⟨s9, hsx⟩ : ∃ sx, sx = str x := ⟨_, rfl⟩
      have HS9 : Hid (∃ x : List UInt8, x.length ≤ 41 ∧ s9 = str x) := hid ⟨x, by omega, hsx⟩
      rw [← hsx]
      clear hs hg hx hsx
      go_wp2_with fail
      refine hK.out _ _ HL3.out.st (fun hHeld => ?_)
      clear hK K
      try simp only [Act.put, List.setIfInBounds_toArray, List.set_cons_zero, List.set_cons_succ]
      refine wpAnyH_ready (rs := [5]) (by kernel_rfl) (by simp) ?_
      refine AllReadyH.cons (o := { dst := some 11, op := Go.Op.call { callee := Go.Callee.value (Go.Operand.func 78), args := #[Go.Operand.tmp 10], argTypes := #[80] }, type := 9, pos := "l13_journal.go:160", after := #[{ on := 4, ground := Go.Ground.data }, { on := 3, ground := Go.Ground.chain }], guard := none }) rfl (fun K hK => ?_) AllReadyH.nil
      go_simp
      go_at_call 78
      refine (lineD w.heap.size w.heap.size len cap 1 a _ HL3.out.src (hcode.out _ HL3.out.st) (Nat.le_refl _) (by omega) (by omega)).mono ?_
      rintro z t4 ⟨x, hx, rfl, hs, hg⟩
      have HL4 := hid (HL3.out.turn hg hs)
      obtain ⟨s11, hsx⟩ : ∃ sx, sx = str x := ⟨_, rfl⟩
      have HS11 : Hid (∃ x : List UInt8, x.length ≤ 41 ∧ s11 = str x) := hid ⟨x, by omega, hsx⟩
      rw [← hsx]
      clear hs hg hx hsx
      go_wp2_with fail
      refine hK.out _ _ HL4.out.st (fun hHeld => ?_)
      clear hK K
      try simp only [Act.put, List.setIfInBounds_toArray, List.set_cons_zero, List.set_cons_succ]
      refine wpAnyH_ready (rs := [6, 8]) (by kernel_rfl) (by simp) ?_
      refine AllReadyH.cons (o := { dst := some 12, op := Go.Op.buildSlice 30 7 #[(0, Go.Operand.const (Go.Value.string { data := #[97, 98, 99] })), (1, Go.Operand.const (Go.Value.string { data := #[] })), (2, Go.Operand.const (Go.Value.string { data := #[97, 9, 98] })), (3, Go.Operand.const (Go.Value.string { data := #[126, 32, 120] })), (4, Go.Operand.tmp 7), (5, Go.Operand.tmp 9), (6, Go.Operand.tmp 11)], type := 30, pos := "l13_journal.go:160", after := #[{ on := 1, ground := Go.Ground.data }, { on := 3, ground := Go.Ground.data }, { on := 5, ground := Go.Ground.data }], guard := none }) rfl (fun K hK => ?_) (AllReadyH.cons (o := { dst := some 14, op := Go.Op.call { callee := Go.Callee.value (Go.Operand.func 76), args := #[Go.Operand.tmp 13, Go.Operand.const (Go.Value.int Go.IntKind.i64 7)], argTypes := #[80, 2] }, type := 2, pos := "l13_journal.go:160", after := #[{ on := 7, ground := Go.Ground.data }, { on := 5, ground := Go.Ground.chain }], guard := none }) rfl (fun K hK => ?_) AllReadyH.nil)
      · go_simp
        obtain ⟨t5, hw5⟩ : ∃ wn, wn = t4.alloc (.cells #[.string ⟨#[97, 98, 99]⟩, .string ⟨#[]⟩, .string ⟨#[97, 9, 98]⟩, .string ⟨#[126, 32, 120]⟩, .string sz, .string s9, .string s11] 9) := ⟨_, rfl⟩
        rw [← hw5]
        have HL5 := hid (HL4.out.add hw5)
        clear hw5
        refine hK.out _ _ HL5.out.st (fun hHeld => ?_)
        clear hK K
        try simp only [Act.put, List.setIfInBounds_toArray, List.set_cons_zero, List.set_cons_succ]
        refine wpAnyH_ready (rs := [8]) (by kernel_rfl) (by simp) ?_
        refine AllReadyH.cons (o := { dst := some 14, op := Go.Op.call { callee := Go.Callee.value (Go.Operand.func 76), args := #[Go.Operand.tmp 13, Go.Operand.const (Go.Value.int Go.IntKind.i64 7)], argTypes := #[80, 2] }, type := 2, pos := "l13_journal.go:160", after := #[{ on := 7, ground := Go.Ground.data }, { on := 5, ground := Go.Ground.chain }], guard := none }) rfl (fun K hK => ?_) AllReadyH.nil
        go_simp
        go_at_call 76
        refine (nextB w.heap.size w.heap.size len cap 2 7 a _ HL5.out.src (hcode.out _ HL5.out.st) (Nat.le_refl _) (by omega) (by omega) (by omega) (by omega)).mono ?_
        rintro z t6 ⟨r, hr, rfl, hs, hg⟩
        have HL6 := hid (HL5.out.turn hg hs)
        have HR := hid hr
        clear hs hg hr
        go_wp2_with fail
        refine hK.out _ _ HL6.out.st (fun hHeld => ?_)
        clear hK K
        try simp only [Act.put, List.setIfInBounds_toArray, List.set_cons_zero, List.set_cons_succ]
        obtain ⟨sr, xr, hxr, hsr, hcr⟩ := seven_at HL6.out.hd HSZ.out HS9.out HS11.out HR.out
        have HXR := hid hxr
        have HSR := hid hsr
        have q7 : (r : Int) < 7 := by have := HR.out; omega
        refine wpAnyH_take (i := 9) (oi := { dst := some 15, op := Go.Op.indexAddr 30 (Go.Operand.tmp 12) (Go.Operand.tmp 14), type := 0, pos := "l13_journal.go:160", after := #[{ on := 6, ground := Go.Ground.data }, { on := 8, ground := Go.Ground.data }], guard := none }) (v := .pointer (some ⟨t4.heap.size, r, none⟩)) rfl (by kernel_rfl) (by kernel_rfl) (by kernel_rfl) (fun _ _ _ h => h) (Or.inl ⟨by rfl, by intro w hSw; (try dsimp only at hSw); go_simp⟩) (by assumption) ?_
        simp only [Act.put, List.setIfInBounds_toArray, List.set_cons_zero, List.set_cons_succ]
        refine wpAnyH_ready (rs := [10]) (by kernel_rfl) (by simp) ?_
        refine AllReadyH.cons (o := { dst := some 16, op := Go.Op.load 9 (Go.Operand.tmp 15), type := 9, pos := "l13_journal.go:160", after := #[{ on := 9, ground := Go.Ground.data }], guard := none }) rfl (fun K hK => ?_) AllReadyH.nil
        go_simp
        refine hK.out _ _ HL6.out.st (fun hHeld => ?_)
        clear hK K
        try simp only [Act.put, List.setIfInBounds_toArray, List.set_cons_zero, List.set_cons_succ]
        refine wpAnyH_take (i := 11) (oi := { dst := some 2, op := Go.Op.assign (Go.Operand.tmp 16), type := 9, pos := "l13_journal.go:160", after := #[{ on := 10, ground := Go.Ground.data }, { on := 8, ground := Go.Ground.chain }, { on := 0, ground := Go.Ground.phase }, { on := 1, ground := Go.Ground.phase }, { on := 2, ground := Go.Ground.phase }, { on := 3, ground := Go.Ground.phase }, { on := 4, ground := Go.Ground.phase }, { on := 5, ground := Go.Ground.phase }, { on := 6, ground := Go.Ground.phase }, { on := 7, ground := Go.Ground.phase }, { on := 8, ground := Go.Ground.phase }, { on := 9, ground := Go.Ground.phase }, { on := 10, ground := Go.Ground.phase }], guard := none }) (v := .string sr) rfl (by kernel_rfl) (by kernel_rfl) (by kernel_rfl) (fun _ _ _ h => h) (Or.inl ⟨by rfl, by intro w hSw; (try dsimp only at hSw); go_simp⟩) (by assumption) ?_
        simp only [Act.put, List.setIfInBounds_toArray, List.set_cons_zero, List.set_cons_succ]
        refine wpAnyH_done (by kernel_rfl) ?_ _
        go_wp2
        go_ret
        exact ⟨xr, HXR.out, by rw [HSR.out]; rfl, HL6.out.st⟩
      · go_simp
        go_at_call 76
        refine (nextB w.heap.size w.heap.size len cap 2 7 a _ HL4.out.src (hcode.out _ HL4.out.st) (Nat.le_refl _) (by omega) (by omega) (by omega) (by omega)).mono ?_
        rintro z t8 ⟨r, hr, rfl, hs, hg⟩
        have HL8 := hid (HL4.out.turn hg hs)
        have HR := hid hr
        clear hs hg hr
        go_wp2_with fail
        refine hK.out _ _ HL8.out.st (fun hHeld => ?_)
        clear hK K
        try simp only [Act.put, List.setIfInBounds_toArray, List.set_cons_zero, List.set_cons_succ]
        refine wpAnyH_ready (rs := [6]) (by kernel_rfl) (by simp) ?_
        refine AllReadyH.cons (o := { dst := some 12, op := Go.Op.buildSlice 30 7 #[(0, Go.Operand.const (Go.Value.string { data := #[97, 98, 99] })), (1, Go.Operand.const (Go.Value.string { data := #[] })), (2, Go.Operand.const (Go.Value.string { data := #[97, 9, 98] })), (3, Go.Operand.const (Go.Value.string { data := #[126, 32, 120] })), (4, Go.Operand.tmp 7), (5, Go.Operand.tmp 9), (6, Go.Operand.tmp 11)], type := 30, pos := "l13_journal.go:160", after := #[{ on := 1, ground := Go.Ground.data }, { on := 3, ground := Go.Ground.data }, { on := 5, ground := Go.Ground.data }], guard := none }) rfl (fun K hK => ?_) AllReadyH.nil
        go_simp
        obtain ⟨t9, hw9⟩ : ∃ wn, wn = t8.alloc (.cells #[.string ⟨#[97, 98, 99]⟩, .string ⟨#[]⟩, .string ⟨#[97, 9, 98]⟩, .string ⟨#[126, 32, 120]⟩, .string sz, .string s9, .string s11] 9) := ⟨_, rfl⟩
        rw [← hw9]
        have HL9 := hid (HL8.out.add hw9)
        clear hw9
        refine hK.out _ _ HL9.out.st (fun hHeld => ?_)
        clear hK K
        try simp only [Act.put, List.setIfInBounds_toArray, List.set_cons_zero, List.set_cons_succ]
        obtain ⟨sr, xr, hxr, hsr, hcr⟩ := seven_at HL9.out.hd HSZ.out HS9.out HS11.out HR.out
        have HXR := hid hxr
        have HSR := hid hsr
        have q7 : (r : Int) < 7 := by have := HR.out; omega
        refine wpAnyH_take (i := 9) (oi := { dst := some 15, op := Go.Op.indexAddr 30 (Go.Operand.tmp 12) (Go.Operand.tmp 14), type := 0, pos := "l13_journal.go:160", after := #[{ on := 6, ground := Go.Ground.data }, { on := 8, ground := Go.Ground.data }], guard := none }) (v := .pointer (some ⟨t8.heap.size, r, none⟩)) rfl (by kernel_rfl) (by kernel_rfl) (by kernel_rfl) (fun _ _ _ h => h) (Or.inl ⟨by rfl, by intro w hSw; (try dsimp only at hSw); go_simp⟩) (by assumption) ?_
        simp only [Act.put, List.setIfInBounds_toArray, List.set_cons_zero, List.set_cons_succ]
        refine wpAnyH_ready (rs := [10]) (by kernel_rfl) (by simp) ?_
        refine AllReadyH.cons (o := { dst := some 16, op := Go.Op.load 9 (Go.Operand.tmp 15), type := 9, pos := "l13_journal.go:160", after := #[{ on := 9, ground := Go.Ground.data }], guard := none }) rfl (fun K hK => ?_) AllReadyH.nil
        go_simp
        refine hK.out _ _ HL9.out.st (fun hHeld => ?_)
        clear hK K
        try simp only [Act.put, List.setIfInBounds_toArray, List.set_cons_zero, List.set_cons_succ]
        refine wpAnyH_take (i := 11) (oi := { dst := some 2, op := Go.Op.assign (Go.Operand.tmp 16), type := 9, pos := "l13_journal.go:160", after := #[{ on := 10, ground := Go.Ground.data }, { on := 8, ground := Go.Ground.chain }, { on := 0, ground := Go.Ground.phase }, { on := 1, ground := Go.Ground.phase }, { on := 2, ground := Go.Ground.phase }, { on := 3, ground := Go.Ground.phase }, { on := 4, ground := Go.Ground.phase }, { on := 5, ground := Go.Ground.phase }, { on := 6, ground := Go.Ground.phase }, { on := 7, ground := Go.Ground.phase }, { on := 8, ground := Go.Ground.phase }, { on := 9, ground := Go.Ground.phase }, { on := 10, ground := Go.Ground.phase }], guard := none }) (v := .string sr) rfl (by kernel_rfl) (by kernel_rfl) (by kernel_rfl) (fun _ _ _ h => h) (Or.inl ⟨by rfl, by intro w hSw; (try dsimp only at hSw); go_simp⟩) (by assumption) ?_
        simp only [Act.put, List.setIfInBounds_toArray, List.set_cons_zero, List.set_cons_succ]
        refine wpAnyH_done (by kernel_rfl) ?_ _
        go_wp2
        go_ret
        exact ⟨xr, HXR.out, by rw [HSR.out]; rfl, HL9.out.st⟩
    · go_simp
      go_at_call 78
      refine (lineD w.heap.size w.heap.size len cap 0 a _ HL1.out.src (hcode.out _ HL1.out.st) (Nat.le_refl _) (by omega) (by omega)).mono ?_
      rintro z t11 ⟨x, hx, rfl, hs, hg⟩
      have HL11 := hid (HL1.out.turn hg hs)
      obtain ⟨s9, hsx⟩ : ∃ sx, sx = str x := ⟨_, rfl⟩
      have HS9 : Hid (∃ x : List UInt8, x.length ≤ 41 ∧ s9 = str x) := hid ⟨x, by omega, hsx⟩
      rw [← hsx]
      clear hs hg hx hsx
      go_wp2_with fail
      refine hK.out _ _ HL11.out.st (fun hHeld => ?_)
      clear hK K
      try simp only [Act.put, List.setIfInBounds_toArray, List.set_cons_zero, List.set_cons_succ]
      refine wpAnyH_ready (rs := [1, 5]) (by kernel_rfl) (by simp) ?_
      refine AllReadyH.cons (o := { dst := some 7, op := Go.Op.convert 24 9 (Go.Operand.tmp 6), type := 9, pos := "l13_journal.go:160", after := #[{ on := 0, ground := Go.Ground.data }], guard := none }) rfl (fun K hK => ?_) (AllReadyH.cons (o := { dst := some 11, op := Go.Op.call { callee := Go.Callee.value (Go.Operand.func 78), args := #[Go.Operand.tmp 10], argTypes := #[80] }, type := 9, pos := "l13_journal.go:160", after := #[{ on := 4, ground := Go.Ground.data }, { on := 3, ground := Go.Ground.chain }], guard := none }) rfl (fun K hK => ?_) AllReadyH.nil)
      · have hcv := hconv _ _ (HL11.out.b _ (List.mem_cons_self ..)).1
        dsimp only at hcv
        go_simp
        clear hcv
        refine hK.out _ _ HL11.out.st (fun hHeld => ?_)
        clear hK K
        try simp only [Act.put, List.setIfInBounds_toArray, List.set_cons_zero, List.set_cons_succ]
        refine wpAnyH_ready (rs := [5]) (by kernel_rfl) (by simp) ?_
        refine AllReadyH.cons (o := { dst := some 11, op := Go.Op.call { callee := Go.Callee.value (Go.Operand.func 78), args := #[Go.Operand.tmp 10], argTypes := #[80] }, type := 9, pos := "l13_journal.go:160", after := #[{ on := 4, ground := Go.Ground.data }, { on := 3, ground := Go.Ground.chain }], guard := none }) rfl (fun K hK => ?_) AllReadyH.nil
        go_simp
        go_at_call 78
        refine (lineD w.heap.size w.heap.size len cap 1 a _ HL11.out.src (hcode.out _ HL11.out.st) (Nat.le_refl _) (by omega) (by omega)).mono ?_
        rintro z t13 ⟨x, hx, rfl, hs, hg⟩
        have HL13 := hid (HL11.out.turn hg hs)
        obtain ⟨s11, hsx⟩ : ∃ sx, sx = str x := ⟨_, rfl⟩
        have HS11 : Hid (∃ x : List UInt8, x.length ≤ 41 ∧ s11 = str x) := hid ⟨x, by omega, hsx⟩
        rw [← hsx]
        clear hs hg hx hsx
        go_wp2_with fail
        refine hK.out _ _ HL13.out.st (fun hHeld => ?_)
        clear hK K
        try simp only [Act.put, List.setIfInBounds_toArray, List.set_cons_zero, List.set_cons_succ]
        refine wpAnyH_ready (rs := [6, 8]) (by kernel_rfl) (by simp) ?_
        refine AllReadyH.cons (o := { dst := some 12, op := Go.Op.buildSlice 30 7 #[(0, Go.Operand.const (Go.Value.string { data := #[97, 98, 99] })), (1, Go.Operand.const (Go.Value.string { data := #[] })), (2, Go.Operand.const (Go.Value.string { data := #[97, 9, 98] })), (3, Go.Operand.const (Go.Value.string { data := #[126, 32, 120] })), (4, Go.Operand.tmp 7), (5, Go.Operand.tmp 9), (6, Go.Operand.tmp 11)], type := 30, pos := "l13_journal.go:160", after := #[{ on := 1, ground := Go.Ground.data }, { on := 3, ground := Go.Ground.data }, { on := 5, ground := Go.Ground.data }], guard := none }) rfl (fun K hK => ?_) (AllReadyH.cons (o := { dst := some 14, op := Go.Op.call { callee := Go.Callee.value (Go.Operand.func 76), args := #[Go.Operand.tmp 13, Go.Operand.const (Go.Value.int Go.IntKind.i64 7)], argTypes := #[80, 2] }, type := 2, pos := "l13_journal.go:160", after := #[{ on := 7, ground := Go.Ground.data }, { on := 5, ground := Go.Ground.chain }], guard := none }) rfl (fun K hK => ?_) AllReadyH.nil)
        · go_simp
          obtain ⟨t14, hw14⟩ : ∃ wn, wn = t13.alloc (.cells #[.string ⟨#[97, 98, 99]⟩, .string ⟨#[]⟩, .string ⟨#[97, 9, 98]⟩, .string ⟨#[126, 32, 120]⟩, .string sz, .string s9, .string s11] 9) := ⟨_, rfl⟩
          rw [← hw14]
          have HL14 := hid (HL13.out.add hw14)
          clear hw14
          refine hK.out _ _ HL14.out.st (fun hHeld => ?_)
          clear hK K
          try simp only [Act.put, List.setIfInBounds_toArray, List.set_cons_zero, List.set_cons_succ]
          refine wpAnyH_ready (rs := [8]) (by kernel_rfl) (by simp) ?_
          refine AllReadyH.cons (o := { dst := some 14, op := Go.Op.call { callee := Go.Callee.value (Go.Operand.func 76), args := #[Go.Operand.tmp 13, Go.Operand.const (Go.Value.int Go.IntKind.i64 7)], argTypes := #[80, 2] }, type := 2, pos := "l13_journal.go:160", after := #[{ on := 7, ground := Go.Ground.data }, { on := 5, ground := Go.Ground.chain }], guard := none }) rfl (fun K hK => ?_) AllReadyH.nil
          go_simp
          go_at_call 76
          refine (nextB w.heap.size w.heap.size len cap 2 7 a _ HL14.out.src (hcode.out _ HL14.out.st) (Nat.le_refl _) (by omega) (by omega) (by omega) (by omega)).mono ?_
          rintro z t15 ⟨r, hr, rfl, hs, hg⟩
          have HL15 := hid (HL14.out.turn hg hs)
          have HR := hid hr
          clear hs hg hr
          go_wp2_with fail
          refine hK.out _ _ HL15.out.st (fun hHeld => ?_)
          clear hK K
          try simp only [Act.put, List.setIfInBounds_toArray, List.set_cons_zero, List.set_cons_succ]
          obtain ⟨sr, xr, hxr, hsr, hcr⟩ := seven_at HL15.out.hd HSZ.out HS9.out HS11.out HR.out
          have HXR := hid hxr
          have HSR := hid hsr
          have q7 : (r : Int) < 7 := by have := HR.out; omega
          refine wpAnyH_take (i := 9) (oi := { dst := some 15, op := Go.Op.indexAddr 30 (Go.Operand.tmp 12) (Go.Operand.tmp 14), type := 0, pos := "l13_journal.go:160", after := #[{ on := 6, ground := Go.Ground.data }, { on := 8, ground := Go.Ground.data }], guard := none }) (v := .pointer (some ⟨t13.heap.size, r, none⟩)) rfl (by kernel_rfl) (by kernel_rfl) (by kernel_rfl) (fun _ _ _ h => h) (Or.inl ⟨by rfl, by intro w hSw; (try dsimp only at hSw); go_simp⟩) (by assumption) ?_
          simp only [Act.put, List.setIfInBounds_toArray, List.set_cons_zero, List.set_cons_succ]
          refine wpAnyH_ready (rs := [10]) (by kernel_rfl) (by simp) ?_
          refine AllReadyH.cons (o := { dst := some 16, op := Go.Op.load 9 (Go.Operand.tmp 15), type := 9, pos := "l13_journal.go:160", after := #[{ on := 9, ground := Go.Ground.data }], guard := none }) rfl (fun K hK => ?_) AllReadyH.nil
          go_simp
          refine hK.out _ _ HL15.out.st (fun hHeld => ?_)
          clear hK K
          try simp only [Act.put, List.setIfInBounds_toArray, List.set_cons_zero, List.set_cons_succ]
          refine wpAnyH_take (i := 11) (oi := { dst := some 2, op := Go.Op.assign (Go.Operand.tmp 16), type := 9, pos := "l13_journal.go:160", after := #[{ on := 10, ground := Go.Ground.data }, { on := 8, ground := Go.Ground.chain }, { on := 0, ground := Go.Ground.phase }, { on := 1, ground := Go.Ground.phase }, { on := 2, ground := Go.Ground.phase }, { on := 3, ground := Go.Ground.phase }, { on := 4, ground := Go.Ground.phase }, { on := 5, ground := Go.Ground.phase }, { on := 6, ground := Go.Ground.phase }, { on := 7, ground := Go.Ground.phase }, { on := 8, ground := Go.Ground.phase }, { on := 9, ground := Go.Ground.phase }, { on := 10, ground := Go.Ground.phase }], guard := none }) (v := .string sr) rfl (by kernel_rfl) (by kernel_rfl) (by kernel_rfl) (fun _ _ _ h => h) (Or.inl ⟨by rfl, by intro w hSw; (try dsimp only at hSw); go_simp⟩) (by assumption) ?_
          simp only [Act.put, List.setIfInBounds_toArray, List.set_cons_zero, List.set_cons_succ]
          refine wpAnyH_done (by kernel_rfl) ?_ _
          go_wp2
          go_ret
          exact ⟨xr, HXR.out, by rw [HSR.out]; rfl, HL15.out.st⟩
        · go_simp
          go_at_call 76
          refine (nextB w.heap.size w.heap.size len cap 2 7 a _ HL13.out.src (hcode.out _ HL13.out.st) (Nat.le_refl _) (by omega) (by omega) (by omega) (by omega)).mono ?_
          rintro z t17 ⟨r, hr, rfl, hs, hg⟩
          have HL17 := hid (HL13.out.turn hg hs)
          have HR := hid hr
          clear hs hg hr
          go_wp2_with fail
          refine hK.out _ _ HL17.out.st (fun hHeld => ?_)
          clear hK K
          try simp only [Act.put, List.setIfInBounds_toArray, List.set_cons_zero, List.set_cons_succ]
          refine wpAnyH_ready (rs := [6]) (by kernel_rfl) (by simp) ?_
          refine AllReadyH.cons (o := { dst := some 12, op := Go.Op.buildSlice 30 7 #[(0, Go.Operand.const (Go.Value.string { data := #[97, 98, 99] })), (1, Go.Operand.const (Go.Value.string { data := #[] })), (2, Go.Operand.const (Go.Value.string { data := #[97, 9, 98] })), (3, Go.Operand.const (Go.Value.string { data := #[126, 32, 120] })), (4, Go.Operand.tmp 7), (5, Go.Operand.tmp 9), (6, Go.Operand.tmp 11)], type := 30, pos := "l13_journal.go:160", after := #[{ on := 1, ground := Go.Ground.data }, { on := 3, ground := Go.Ground.data }, { on := 5, ground := Go.Ground.data }], guard := none }) rfl (fun K hK => ?_) AllReadyH.nil
          go_simp
          obtain ⟨t18, hw18⟩ : ∃ wn, wn = t17.alloc (.cells #[.string ⟨#[97, 98, 99]⟩, .string ⟨#[]⟩, .string ⟨#[97, 9, 98]⟩, .string ⟨#[126, 32, 120]⟩, .string sz, .string s9, .string s11] 9) := ⟨_, rfl⟩
          rw [← hw18]
          have HL18 := hid (HL17.out.add hw18)
          clear hw18
          refine hK.out _ _ HL18.out.st (fun hHeld => ?_)
          clear hK K
          try simp only [Act.put, List.setIfInBounds_toArray, List.set_cons_zero, List.set_cons_succ]
          obtain ⟨sr, xr, hxr, hsr, hcr⟩ := seven_at HL18.out.hd HSZ.out HS9.out HS11.out HR.out
          have HXR := hid hxr
          have HSR := hid hsr
          have q7 : (r : Int) < 7 := by have := HR.out; omega
          refine wpAnyH_take (i := 9) (oi := { dst := some 15, op := Go.Op.indexAddr 30 (Go.Operand.tmp 12) (Go.Operand.tmp 14), type := 0, pos := "l13_journal.go:160", after := #[{ on := 6, ground := Go.Ground.data }, { on := 8, ground := Go.Ground.data }], guard := none }) (v := .pointer (some ⟨t17.heap.size, r, none⟩)) rfl (by kernel_rfl) (by kernel_rfl) (by kernel_rfl) (fun _ _ _ h => h) (Or.inl ⟨by rfl, by intro w hSw; (try dsimp only at hSw); go_simp⟩) (by assumption) ?_
          simp only [Act.put, List.setIfInBounds_toArray, List.set_cons_zero, List.set_cons_succ]
          refine wpAnyH_ready (rs := [10]) (by kernel_rfl) (by simp) ?_
          refine AllReadyH.cons (o := { dst := some 16, op := Go.Op.load 9 (Go.Operand.tmp 15), type := 9, pos := "l13_journal.go:160", after := #[{ on := 9, ground := Go.Ground.data }], guard := none }) rfl (fun K hK => ?_) AllReadyH.nil
          go_simp
          refine hK.out _ _ HL18.out.st (fun hHeld => ?_)
          clear hK K
          try simp only [Act.put, List.setIfInBounds_toArray, List.set_cons_zero, List.set_cons_succ]
          refine wpAnyH_take (i := 11) (oi := { dst := some 2, op := Go.Op.assign (Go.Operand.tmp 16), type := 9, pos := "l13_journal.go:160", after := #[{ on := 10, ground := Go.Ground.data }, { on := 8, ground := Go.Ground.chain }, { on := 0, ground := Go.Ground.phase }, { on := 1, ground := Go.Ground.phase }, { on := 2, ground := Go.Ground.phase }, { on := 3, ground := Go.Ground.phase }, { on := 4, ground := Go.Ground.phase }, { on := 5, ground := Go.Ground.phase }, { on := 6, ground := Go.Ground.phase }, { on := 7, ground := Go.Ground.phase }, { on := 8, ground := Go.Ground.phase }, { on := 9, ground := Go.Ground.phase }, { on := 10, ground := Go.Ground.phase }], guard := none }) (v := .string sr) rfl (by kernel_rfl) (by kernel_rfl) (by kernel_rfl) (fun _ _ _ h => h) (Or.inl ⟨by rfl, by intro w hSw; (try dsimp only at hSw); go_simp⟩) (by assumption) ?_
          simp only [Act.put, List.setIfInBounds_toArray, List.set_cons_zero, List.set_cons_succ]
          refine wpAnyH_done (by kernel_rfl) ?_ _
          go_wp2
          go_ret
          exact ⟨xr, HXR.out, by rw [HSR.out]; rfl, HL18.out.st⟩
      · go_simp
        go_at_call 78
        refine (lineD w.heap.size w.heap.size len cap 1 a _ HL11.out.src (hcode.out _ HL11.out.st) (Nat.le_refl _) (by omega) (by omega)).mono ?_
        rintro z t20 ⟨x, hx, rfl, hs, hg⟩
        have HL20 := hid (HL11.out.turn hg hs)
        obtain ⟨s11, hsx⟩ : ∃ sx, sx = str x := ⟨_, rfl⟩
        have HS11 : Hid (∃ x : List UInt8, x.length ≤ 41 ∧ s11 = str x) := hid ⟨x, by omega, hsx⟩
        rw [← hsx]
        clear hs hg hx hsx
        go_wp2_with fail
        refine hK.out _ _ HL20.out.st (fun hHeld => ?_)
        clear hK K
        try simp only [Act.put, List.setIfInBounds_toArray, List.set_cons_zero, List.set_cons_succ]
        refine wpAnyH_ready (rs := [1, 8]) (by kernel_rfl) (by simp) ?_
        refine AllReadyH.cons (o := { dst := some 7, op := Go.Op.convert 24 9 (Go.Operand.tmp 6), type := 9, pos := "l13_journal.go:160", after := #[{ on := 0, ground := Go.Ground.data }], guard := none }) rfl (fun K hK => ?_) (AllReadyH.cons (o := { dst := some 14, op := Go.Op.call { callee := Go.Callee.value (Go.Operand.func 76), args := #[Go.Operand.tmp 13, Go.Operand.const (Go.Value.int Go.IntKind.i64 7)], argTypes := #[80, 2] }, type := 2, pos := "l13_journal.go:160", after := #[{ on := 7, ground := Go.Ground.data }, { on := 5, ground := Go.Ground.chain }], guard := none }) rfl (fun K hK => ?_) AllReadyH.nil)
        · have hcv := hconv _ _ (HL20.out.b _ (List.mem_cons_self ..)).1
          dsimp only at hcv
          go_simp
          clear hcv
          refine hK.out _ _ HL20.out.st (fun hHeld => ?_)
          clear hK K
          try simp only [Act.put, List.setIfInBounds_toArray, List.set_cons_zero, List.set_cons_succ]
          refine wpAnyH_ready (rs := [6, 8]) (by kernel_rfl) (by simp) ?_
          refine AllReadyH.cons (o := { dst := some 12, op := Go.Op.buildSlice 30 7 #[(0, Go.Operand.const (Go.Value.string { data := #[97, 98, 99] })), (1, Go.Operand.const (Go.Value.string { data := #[] })), (2, Go.Operand.const (Go.Value.string { data := #[97, 9, 98] })), (3, Go.Operand.const (Go.Value.string { data := #[126, 32, 120] })), (4, Go.Operand.tmp 7), (5, Go.Operand.tmp 9), (6, Go.Operand.tmp 11)], type := 30, pos := "l13_journal.go:160", after := #[{ on := 1, ground := Go.Ground.data }, { on := 3, ground := Go.Ground.data }, { on := 5, ground := Go.Ground.data }], guard := none }) rfl (fun K hK => ?_) (AllReadyH.cons (o := { dst := some 14, op := Go.Op.call { callee := Go.Callee.value (Go.Operand.func 76), args := #[Go.Operand.tmp 13, Go.Operand.const (Go.Value.int Go.IntKind.i64 7)], argTypes := #[80, 2] }, type := 2, pos := "l13_journal.go:160", after := #[{ on := 7, ground := Go.Ground.data }, { on := 5, ground := Go.Ground.chain }], guard := none }) rfl (fun K hK => ?_) AllReadyH.nil)
          · go_simp
            obtain ⟨t22, hw22⟩ : ∃ wn, wn = t20.alloc (.cells #[.string ⟨#[97, 98, 99]⟩, .string ⟨#[]⟩, .string ⟨#[97, 9, 98]⟩, .string ⟨#[126, 32, 120]⟩, .string sz, .string s9, .string s11] 9) := ⟨_, rfl⟩
            rw [← hw22]
            have HL22 := hid (HL20.out.add hw22)
            clear hw22
            refine hK.out _ _ HL22.out.st (fun hHeld => ?_)
            clear hK K
            try simp only [Act.put, List.setIfInBounds_toArray, List.set_cons_zero, List.set_cons_succ]
            refine wpAnyH_ready (rs := [8]) (by kernel_rfl) (by simp) ?_
            refine AllReadyH.cons (o := { dst := some 14, op := Go.Op.call { callee := Go.Callee.value (Go.Operand.func 76), args := #[Go.Operand.tmp 13, Go.Operand.const (Go.Value.int Go.IntKind.i64 7)], argTypes := #[80, 2] }, type := 2, pos := "l13_journal.go:160", after := #[{ on := 7, ground := Go.Ground.data }, { on := 5, ground := Go.Ground.chain }], guard := none }) rfl (fun K hK => ?_) AllReadyH.nil
            go_simp
            go_at_call 76
            refine (nextB w.heap.size w.heap.size len cap 2 7 a _ HL22.out.src (hcode.out _ HL22.out.st) (Nat.le_refl _) (by omega) (by omega) (by omega) (by omega)).mono ?_
            rintro z t23 ⟨r, hr, rfl, hs, hg⟩
            have HL23 := hid (HL22.out.turn hg hs)
            have HR := hid hr
            clear hs hg hr
            go_wp2_with fail
            refine hK.out _ _ HL23.out.st (fun hHeld => ?_)
            clear hK K
            try simp only [Act.put, List.setIfInBounds_toArray, List.set_cons_zero, List.set_cons_succ]
            obtain ⟨sr, xr, hxr, hsr, hcr⟩ := seven_at HL23.out.hd HSZ.out HS9.out HS11.out HR.out
            have HXR := hid hxr
            have HSR := hid hsr
            have q7 : (r : Int) < 7 := by have := HR.out; omega
            refine wpAnyH_take (i := 9) (oi := { dst := some 15, op := Go.Op.indexAddr 30 (Go.Operand.tmp 12) (Go.Operand.tmp 14), type := 0, pos := "l13_journal.go:160", after := #[{ on := 6, ground := Go.Ground.data }, { on := 8, ground := Go.Ground.data }], guard := none }) (v := .pointer (some ⟨t20.heap.size, r, none⟩)) rfl (by kernel_rfl) (by kernel_rfl) (by kernel_rfl) (fun _ _ _ h => h) (Or.inl ⟨by rfl, by intro w hSw; (try dsimp only at hSw); go_simp⟩) (by assumption) ?_
            simp only [Act.put, List.setIfInBounds_toArray, List.set_cons_zero, List.set_cons_succ]
            refine wpAnyH_ready (rs := [10]) (by kernel_rfl) (by simp) ?_
            refine AllReadyH.cons (o := { dst := some 16, op := Go.Op.load 9 (Go.Operand.tmp 15), type := 9, pos := "l13_journal.go:160", after := #[{ on := 9, ground := Go.Ground.data }], guard := none }) rfl (fun K hK => ?_) AllReadyH.nil
            go_simp
            refine hK.out _ _ HL23.out.st (fun hHeld => ?_)
            clear hK K
            try simp only [Act.put, List.setIfInBounds_toArray, List.set_cons_zero, List.set_cons_succ]
            refine wpAnyH_take (i := 11) (oi := { dst := some 2, op := Go.Op.assign (Go.Operand.tmp 16), type := 9, pos := "l13_journal.go:160", after := #[{ on := 10, ground := Go.Ground.data }, { on := 8, ground := Go.Ground.chain }, { on := 0, ground := Go.Ground.phase }, { on := 1, ground := Go.Ground.phase }, { on := 2, ground := Go.Ground.phase }, { on := 3, ground := Go.Ground.phase }, { on := 4, ground := Go.Ground.phase }, { on := 5, ground := Go.Ground.phase }, { on := 6, ground := Go.Ground.phase }, { on := 7, ground := Go.Ground.phase }, { on := 8, ground := Go.Ground.phase }, { on := 9, ground := Go.Ground.phase }, { on := 10, ground := Go.Ground.phase }], guard := none }) (v := .string sr) rfl (by kernel_rfl) (by kernel_rfl) (by kernel_rfl) (fun _ _ _ h => h) (Or.inl ⟨by rfl, by intro w hSw; (try dsimp only at hSw); go_simp⟩) (by assumption) ?_
            simp only [Act.put, List.setIfInBounds_toArray, List.set_cons_zero, List.set_cons_succ]
            refine wpAnyH_done (by kernel_rfl) ?_ _
            go_wp2
            go_ret
            exact ⟨xr, HXR.out, by rw [HSR.out]; rfl, HL23.out.st⟩
          · go_simp
            go_at_call 76
            refine (nextB w.heap.size w.heap.size len cap 2 7 a _ HL20.out.src (hcode.out _ HL20.out.st) (Nat.le_refl _) (by omega) (by omega) (by omega) (by omega)).mono ?_
            rintro z t25 ⟨r, hr, rfl, hs, hg⟩
            have HL25 := hid (HL20.out.turn hg hs)
            have HR := hid hr
            clear hs hg hr
            go_wp2_with fail
            refine hK.out _ _ HL25.out.st (fun hHeld => ?_)
            clear hK K
            try simp only [Act.put, List.setIfInBounds_toArray, List.set_cons_zero, List.set_cons_succ]
            refine wpAnyH_ready (rs := [6]) (by kernel_rfl) (by simp) ?_
            refine AllReadyH.cons (o := { dst := some 12, op := Go.Op.buildSlice 30 7 #[(0, Go.Operand.const (Go.Value.string { data := #[97, 98, 99] })), (1, Go.Operand.const (Go.Value.string { data := #[] })), (2, Go.Operand.const (Go.Value.string { data := #[97, 9, 98] })), (3, Go.Operand.const (Go.Value.string { data := #[126, 32, 120] })), (4, Go.Operand.tmp 7), (5, Go.Operand.tmp 9), (6, Go.Operand.tmp 11)], type := 30, pos := "l13_journal.go:160", after := #[{ on := 1, ground := Go.Ground.data }, { on := 3, ground := Go.Ground.data }, { on := 5, ground := Go.Ground.data }], guard := none }) rfl (fun K hK => ?_) AllReadyH.nil
            go_simp
            obtain ⟨t26, hw26⟩ : ∃ wn, wn = t25.alloc (.cells #[.string ⟨#[97, 98, 99]⟩, .string ⟨#[]⟩, .string ⟨#[97, 9, 98]⟩, .string ⟨#[126, 32, 120]⟩, .string sz, .string s9, .string s11] 9) := ⟨_, rfl⟩
            rw [← hw26]
            have HL26 := hid (HL25.out.add hw26)
            clear hw26
            refine hK.out _ _ HL26.out.st (fun hHeld => ?_)
            clear hK K
            try simp only [Act.put, List.setIfInBounds_toArray, List.set_cons_zero, List.set_cons_succ]
            obtain ⟨sr, xr, hxr, hsr, hcr⟩ := seven_at HL26.out.hd HSZ.out HS9.out HS11.out HR.out
            have HXR := hid hxr
            have HSR := hid hsr
            have q7 : (r : Int) < 7 := by have := HR.out; omega
            refine wpAnyH_take (i := 9) (oi := { dst := some 15, op := Go.Op.indexAddr 30 (Go.Operand.tmp 12) (Go.Operand.tmp 14), type := 0, pos := "l13_journal.go:160", after := #[{ on := 6, ground := Go.Ground.data }, { on := 8, ground := Go.Ground.data }], guard := none }) (v := .pointer (some ⟨t25.heap.size, r, none⟩)) rfl (by kernel_rfl) (by kernel_rfl) (by kernel_rfl) (fun _ _ _ h => h) (Or.inl ⟨by rfl, by intro w hSw; (try dsimp only at hSw); go_simp⟩) (by assumption) ?_
            simp only [Act.put, List.setIfInBounds_toArray, List.set_cons_zero, List.set_cons_succ]
            refine wpAnyH_ready (rs := [10]) (by kernel_rfl) (by simp) ?_
            refine AllReadyH.cons (o := { dst := some 16, op := Go.Op.load 9 (Go.Operand.tmp 15), type := 9, pos := "l13_journal.go:160", after := #[{ on := 9, ground := Go.Ground.data }], guard := none }) rfl (fun K hK => ?_) AllReadyH.nil
            go_simp
            refine hK.out _ _ HL26.out.st (fun hHeld => ?_)
            clear hK K
            try simp only [Act.put, List.setIfInBounds_toArray, List.set_cons_zero, List.set_cons_succ]
            refine wpAnyH_take (i := 11) (oi := { dst := some 2, op := Go.Op.assign (Go.Operand.tmp 16), type := 9, pos := "l13_journal.go:160", after := #[{ on := 10, ground := Go.Ground.data }, { on := 8, ground := Go.Ground.chain }, { on := 0, ground := Go.Ground.phase }, { on := 1, ground := Go.Ground.phase }, { on := 2, ground := Go.Ground.phase }, { on := 3, ground := Go.Ground.phase }, { on := 4, ground := Go.Ground.phase }, { on := 5, ground := Go.Ground.phase }, { on := 6, ground := Go.Ground.phase }, { on := 7, ground := Go.Ground.phase }, { on := 8, ground := Go.Ground.phase }, { on := 9, ground := Go.Ground.phase }, { on := 10, ground := Go.Ground.phase }], guard := none }) (v := .string sr) rfl (by kernel_rfl) (by kernel_rfl) (by kernel_rfl) (fun _ _ _ h => h) (Or.inl ⟨by rfl, by intro w hSw; (try dsimp only at hSw); go_simp⟩) (by assumption) ?_
            simp only [Act.put, List.setIfInBounds_toArray, List.set_cons_zero, List.set_cons_succ]
            refine wpAnyH_done (by kernel_rfl) ?_ _
            go_wp2
            go_ret
            exact ⟨xr, HXR.out, by rw [HSR.out]; rfl, HL26.out.st⟩
        · go_simp
          go_at_call 76
          refine (nextB w.heap.size w.heap.size len cap 2 7 a _ HL20.out.src (hcode.out _ HL20.out.st) (Nat.le_refl _) (by omega) (by omega) (by omega) (by omega)).mono ?_
          rintro z t28 ⟨r, hr, rfl, hs, hg⟩
          have HL28 := hid (HL20.out.turn hg hs)
          have HR := hid hr
          clear hs hg hr
          go_wp2_with fail
          refine hK.out _ _ HL28.out.st (fun hHeld => ?_)
          clear hK K
          try simp only [Act.put, List.setIfInBounds_toArray, List.set_cons_zero, List.set_cons_succ]
          refine wpAnyH_ready (rs := [1]) (by kernel_rfl) (by simp) ?_
          refine AllReadyH.cons (o := { dst := some 7, op := Go.Op.convert 24 9 (Go.Operand.tmp 6), type := 9, pos := "l13_journal.go:160", after := #[{ on := 0, ground := Go.Ground.data }], guard := none }) rfl (fun K hK => ?_) AllReadyH.nil
          have hcv := hconv _ _ (HL28.out.b _ (List.mem_cons_self ..)).1
          dsimp only at hcv
          go_simp
          clear hcv
          refine hK.out _ _ HL28.out.st (fun hHeld => ?_)
          clear hK K
          try simp only [Act.put, List.setIfInBounds_toArray, List.set_cons_zero, List.set_cons_succ]
          refine wpAnyH_ready (rs := [6]) (by kernel_rfl) (by simp) ?_
          refine AllReadyH.cons (o := { dst := some 12, op := Go.Op.buildSlice 30 7 #[(0, Go.Operand.const (Go.Value.string { data := #[97, 98, 99] })), (1, Go.Operand.const (Go.Value.string { data := #[] })), (2, Go.Operand.const (Go.Value.string { data := #[97, 9, 98] })), (3, Go.Operand.const (Go.Value.string { data := #[126, 32, 120] })), (4, Go.Operand.tmp 7), (5, Go.Operand.tmp 9), (6, Go.Operand.tmp 11)], type := 30, pos := "l13_journal.go:160", after := #[{ on := 1, ground := Go.Ground.data }, { on := 3, ground := Go.Ground.data }, { on := 5, ground := Go.Ground.data }], guard := none }) rfl (fun K hK => ?_) AllReadyH.nil
          go_simp
          obtain ⟨t30, hw30⟩ : ∃ wn, wn = t28.alloc (.cells #[.string ⟨#[97, 98, 99]⟩, .string ⟨#[]⟩, .string ⟨#[97, 9, 98]⟩, .string ⟨#[126, 32, 120]⟩, .string sz, .string s9, .string s11] 9) := ⟨_, rfl⟩
          rw [← hw30]
          have HL30 := hid (HL28.out.add hw30)
          clear hw30
          refine hK.out _ _ HL30.out.st (fun hHeld => ?_)
          clear hK K
          try simp only [Act.put, List.setIfInBounds_toArray, List.set_cons_zero, List.set_cons_succ]
          obtain ⟨sr, xr, hxr, hsr, hcr⟩ := seven_at HL30.out.hd HSZ.out HS9.out HS11.out HR.out
          have HXR := hid hxr
          have HSR := hid hsr
          have q7 : (r : Int) < 7 := by have := HR.out; omega
          refine wpAnyH_take (i := 9) (oi := { dst := some 15, op := Go.Op.indexAddr 30 (Go.Operand.tmp 12) (Go.Operand.tmp 14), type := 0, pos := "l13_journal.go:160", after := #[{ on := 6, ground := Go.Ground.data }, { on := 8, ground := Go.Ground.data }], guard := none }) (v := .pointer (some ⟨t28.heap.size, r, none⟩)) rfl (by kernel_rfl) (by kernel_rfl) (by kernel_rfl) (fun _ _ _ h => h) (Or.inl ⟨by rfl, by intro w hSw; (try dsimp only at hSw); go_simp⟩) (by assumption) ?_
          simp only [Act.put, List.setIfInBounds_toArray, List.set_cons_zero, List.set_cons_succ]
          refine wpAnyH_ready (rs := [10]) (by kernel_rfl) (by simp) ?_
          refine AllReadyH.cons (o := { dst := some 16, op := Go.Op.load 9 (Go.Operand.tmp 15), type := 9, pos := "l13_journal.go:160", after := #[{ on := 9, ground := Go.Ground.data }], guard := none }) rfl (fun K hK => ?_) AllReadyH.nil
          go_simp
          refine hK.out _ _ HL30.out.st (fun hHeld => ?_)
          clear hK K
          try simp only [Act.put, List.setIfInBounds_toArray, List.set_cons_zero, List.set_cons_succ]
          refine wpAnyH_take (i := 11) (oi := { dst := some 2, op := Go.Op.assign (Go.Operand.tmp 16), type := 9, pos := "l13_journal.go:160", after := #[{ on := 10, ground := Go.Ground.data }, { on := 8, ground := Go.Ground.chain }, { on := 0, ground := Go.Ground.phase }, { on := 1, ground := Go.Ground.phase }, { on := 2, ground := Go.Ground.phase }, { on := 3, ground := Go.Ground.phase }, { on := 4, ground := Go.Ground.phase }, { on := 5, ground := Go.Ground.phase }, { on := 6, ground := Go.Ground.phase }, { on := 7, ground := Go.Ground.phase }, { on := 8, ground := Go.Ground.phase }, { on := 9, ground := Go.Ground.phase }, { on := 10, ground := Go.Ground.phase }], guard := none }) (v := .string sr) rfl (by kernel_rfl) (by kernel_rfl) (by kernel_rfl) (fun _ _ _ h => h) (Or.inl ⟨by rfl, by intro w hSw; (try dsimp only at hSw); go_simp⟩) (by assumption) ?_
          simp only [Act.put, List.setIfInBounds_toArray, List.set_cons_zero, List.set_cons_succ]
          refine wpAnyH_done (by kernel_rfl) ?_ _
          go_wp2
          go_ret
          exact ⟨xr, HXR.out, by rw [HSR.out]; rfl, HL30.out.st⟩
  · go_simp
    go_at_call 78
    refine (lineD w.heap.size w.heap.size len cap 0 a _ HL0.out.src (hcode.out _ HL0.out.st) (Nat.le_refl _) (by omega) (by omega)).mono ?_
    rintro z t32 ⟨x, hx, rfl, hs, hg⟩
    have HL32 := hid (HL0.out.turn hg hs)
    obtain ⟨s9, hsx⟩ : ∃ sx, sx = str x := ⟨_, rfl⟩
    have HS9 : Hid (∃ x : List UInt8, x.length ≤ 41 ∧ s9 = str x) := hid ⟨x, by omega, hsx⟩
    rw [← hsx]
    clear hs hg hx hsx
    go_wp2_with fail
    refine hK.out _ _ HL32.out.st (fun hHeld => ?_)
    clear hK K
    try simp only [Act.put, List.setIfInBounds_toArray, List.set_cons_zero, List.set_cons_succ]
    refine wpAnyH_ready (rs := [0, 5]) (by kernel_rfl) (by simp) ?_
    refine AllReadyH.cons (o := { dst := some 6, op := Go.Op.makeSlice 24 (Go.Operand.const (Go.Value.int Go.IntKind.i64 41)) (Go.Operand.const (Go.Value.int Go.IntKind.i64 41)), type := 24, pos := "l13_journal.go:160", after := #[], guard := none }) rfl (fun K hK => ?_) (AllReadyH.cons (o := { dst := some 11, op := Go.Op.call { callee := Go.Callee.value (Go.Operand.func 78), args := #[Go.Operand.tmp 10], argTypes := #[80] }, type := 9, pos := "l13_journal.go:160", after := #[{ on := 4, ground := Go.Ground.data }, { on := 3, ground := Go.Ground.chain }], guard := none }) rfl (fun K hK => ?_) AllReadyH.nil)
    · have hmk := hmake t32
      go_simp
      obtain ⟨t33, hw33⟩ : ∃ wn, wn = t32.alloc (.cells zs 5) := ⟨_, rfl⟩
      rw [← hw33]
      have HL33 := hid (HL32.out.add hw33)
      clear hw33 hmk
      refine hK.out _ _ HL33.out.st (fun hHeld => ?_)
      clear hK K
      try simp only [Act.put, List.setIfInBounds_toArray, List.set_cons_zero, List.set_cons_succ]
      refine wpAnyH_ready (rs := [1, 5]) (by kernel_rfl) (by simp) ?_
      refine AllReadyH.cons (o := { dst := some 7, op := Go.Op.convert 24 9 (Go.Operand.tmp 6), type := 9, pos := "l13_journal.go:160", after := #[{ on := 0, ground := Go.Ground.data }], guard := none }) rfl (fun K hK => ?_) (AllReadyH.cons (o := { dst := some 11, op := Go.Op.call { callee := Go.Callee.value (Go.Operand.func 78), args := #[Go.Operand.tmp 10], argTypes := #[80] }, type := 9, pos := "l13_journal.go:160", after := #[{ on := 4, ground := Go.Ground.data }, { on := 3, ground := Go.Ground.chain }], guard := none }) rfl (fun K hK => ?_) AllReadyH.nil)
      · have hcv := hconv _ _ (HL33.out.b _ (List.mem_cons_self ..)).1
        dsimp only at hcv
        go_simp
        clear hcv
        refine hK.out _ _ HL33.out.st (fun hHeld => ?_)
        clear hK K
        try simp only [Act.put, List.setIfInBounds_toArray, List.set_cons_zero, List.set_cons_succ]
        refine wpAnyH_ready (rs := [5]) (by kernel_rfl) (by simp) ?_
        refine AllReadyH.cons (o := { dst := some 11, op := Go.Op.call { callee := Go.Callee.value (Go.Operand.func 78), args := #[Go.Operand.tmp 10], argTypes := #[80] }, type := 9, pos := "l13_journal.go:160", after := #[{ on := 4, ground := Go.Ground.data }, { on := 3, ground := Go.Ground.chain }], guard := none }) rfl (fun K hK => ?_) AllReadyH.nil
        go_simp
        go_at_call 78
        refine (lineD w.heap.size w.heap.size len cap 1 a _ HL33.out.src (hcode.out _ HL33.out.st) (Nat.le_refl _) (by omega) (by omega)).mono ?_
        rintro z t35 ⟨x, hx, rfl, hs, hg⟩
        have HL35 := hid (HL33.out.turn hg hs)
        obtain ⟨s11, hsx⟩ : ∃ sx, sx = str x := ⟨_, rfl⟩
        have HS11 : Hid (∃ x : List UInt8, x.length ≤ 41 ∧ s11 = str x) := hid ⟨x, by omega, hsx⟩
        rw [← hsx]
        clear hs hg hx hsx
        go_wp2_with fail
        refine hK.out _ _ HL35.out.st (fun hHeld => ?_)
        clear hK K
        try simp only [Act.put, List.setIfInBounds_toArray, List.set_cons_zero, List.set_cons_succ]
        refine wpAnyH_ready (rs := [6, 8]) (by kernel_rfl) (by simp) ?_
        refine AllReadyH.cons (o := { dst := some 12, op := Go.Op.buildSlice 30 7 #[(0, Go.Operand.const (Go.Value.string { data := #[97, 98, 99] })), (1, Go.Operand.const (Go.Value.string { data := #[] })), (2, Go.Operand.const (Go.Value.string { data := #[97, 9, 98] })), (3, Go.Operand.const (Go.Value.string { data := #[126, 32, 120] })), (4, Go.Operand.tmp 7), (5, Go.Operand.tmp 9), (6, Go.Operand.tmp 11)], type := 30, pos := "l13_journal.go:160", after := #[{ on := 1, ground := Go.Ground.data }, { on := 3, ground := Go.Ground.data }, { on := 5, ground := Go.Ground.data }], guard := none }) rfl (fun K hK => ?_) (AllReadyH.cons (o := { dst := some 14, op := Go.Op.call { callee := Go.Callee.value (Go.Operand.func 76), args := #[Go.Operand.tmp 13, Go.Operand.const (Go.Value.int Go.IntKind.i64 7)], argTypes := #[80, 2] }, type := 2, pos := "l13_journal.go:160", after := #[{ on := 7, ground := Go.Ground.data }, { on := 5, ground := Go.Ground.chain }], guard := none }) rfl (fun K hK => ?_) AllReadyH.nil)
        · go_simp
          obtain ⟨t36, hw36⟩ : ∃ wn, wn = t35.alloc (.cells #[.string ⟨#[97, 98, 99]⟩, .string ⟨#[]⟩, .string ⟨#[97, 9, 98]⟩, .string ⟨#[126, 32, 120]⟩, .string sz, .string s9, .string s11] 9) := ⟨_, rfl⟩
          rw [← hw36]
          have HL36 := hid (HL35.out.add hw36)
          clear hw36
          refine hK.out _ _ HL36.out.st (fun hHeld => ?_)
          clear hK K
          try simp only [Act.put, List.setIfInBounds_toArray, List.set_cons_zero, List.set_cons_succ]
          refine wpAnyH_ready (rs := [8]) (by kernel_rfl) (by simp) ?_
          refine AllReadyH.cons (o := { dst := some 14, op := Go.Op.call { callee := Go.Callee.value (Go.Operand.func 76), args := #[Go.Operand.tmp 13, Go.Operand.const (Go.Value.int Go.IntKind.i64 7)], argTypes := #[80, 2] }, type := 2, pos := "l13_journal.go:160", after := #[{ on := 7, ground := Go.Ground.data }, { on := 5, ground := Go.Ground.chain }], guard := none }) rfl (fun K hK => ?_) AllReadyH.nil
          go_simp
          go_at_call 76
          refine (nextB w.heap.size w.heap.size len cap 2 7 a _ HL36.out.src (hcode.out _ HL36.out.st) (Nat.le_refl _) (by omega) (by omega) (by omega) (by omega)).mono ?_
          rintro z t37 ⟨r, hr, rfl, hs, hg⟩
          have HL37 := hid (HL36.out.turn hg hs)
          have HR := hid hr
          clear hs hg hr
          go_wp2_with fail
          refine hK.out _ _ HL37.out.st (fun hHeld => ?_)
          clear hK K
          try simp only [Act.put, List.setIfInBounds_toArray, List.set_cons_zero, List.set_cons_succ]
          obtain ⟨sr, xr, hxr, hsr, hcr⟩ := seven_at HL37.out.hd HSZ.out HS9.out HS11.out HR.out
          have HXR := hid hxr
          have HSR := hid hsr
          have q7 : (r : Int) < 7 := by have := HR.out; omega
          refine wpAnyH_take (i := 9) (oi := { dst := some 15, op := Go.Op.indexAddr 30 (Go.Operand.tmp 12) (Go.Operand.tmp 14), type := 0, pos := "l13_journal.go:160", after := #[{ on := 6, ground := Go.Ground.data }, { on := 8, ground := Go.Ground.data }], guard := none }) (v := .pointer (some ⟨t35.heap.size, r, none⟩)) rfl (by kernel_rfl) (by kernel_rfl) (by kernel_rfl) (fun _ _ _ h => h) (Or.inl ⟨by rfl, by intro w hSw; (try dsimp only at hSw); go_simp⟩) (by assumption) ?_
          simp only [Act.put, List.setIfInBounds_toArray, List.set_cons_zero, List.set_cons_succ]
          refine wpAnyH_ready (rs := [10]) (by kernel_rfl) (by simp) ?_
          refine AllReadyH.cons (o := { dst := some 16, op := Go.Op.load 9 (Go.Operand.tmp 15), type := 9, pos := "l13_journal.go:160", after := #[{ on := 9, ground := Go.Ground.data }], guard := none }) rfl (fun K hK => ?_) AllReadyH.nil
          go_simp
          refine hK.out _ _ HL37.out.st (fun hHeld => ?_)
          clear hK K
          try simp only [Act.put, List.setIfInBounds_toArray, List.set_cons_zero, List.set_cons_succ]
          refine wpAnyH_take (i := 11) (oi := { dst := some 2, op := Go.Op.assign (Go.Operand.tmp 16), type := 9, pos := "l13_journal.go:160", after := #[{ on := 10, ground := Go.Ground.data }, { on := 8, ground := Go.Ground.chain }, { on := 0, ground := Go.Ground.phase }, { on := 1, ground := Go.Ground.phase }, { on := 2, ground := Go.Ground.phase }, { on := 3, ground := Go.Ground.phase }, { on := 4, ground := Go.Ground.phase }, { on := 5, ground := Go.Ground.phase }, { on := 6, ground := Go.Ground.phase }, { on := 7, ground := Go.Ground.phase }, { on := 8, ground := Go.Ground.phase }, { on := 9, ground := Go.Ground.phase }, { on := 10, ground := Go.Ground.phase }], guard := none }) (v := .string sr) rfl (by kernel_rfl) (by kernel_rfl) (by kernel_rfl) (fun _ _ _ h => h) (Or.inl ⟨by rfl, by intro w hSw; (try dsimp only at hSw); go_simp⟩) (by assumption) ?_
          simp only [Act.put, List.setIfInBounds_toArray, List.set_cons_zero, List.set_cons_succ]
          refine wpAnyH_done (by kernel_rfl) ?_ _
          go_wp2
          go_ret
          exact ⟨xr, HXR.out, by rw [HSR.out]; rfl, HL37.out.st⟩
        · go_simp
          go_at_call 76
          refine (nextB w.heap.size w.heap.size len cap 2 7 a _ HL35.out.src (hcode.out _ HL35.out.st) (Nat.le_refl _) (by omega) (by omega) (by omega) (by omega)).mono ?_
          rintro z t39 ⟨r, hr, rfl, hs, hg⟩
          have HL39 := hid (HL35.out.turn hg hs)
          have HR := hid hr
          clear hs hg hr
          go_wp2_with fail
          refine hK.out _ _ HL39.out.st (fun hHeld => ?_)
          clear hK K
          try simp only [Act.put, List.setIfInBounds_toArray, List.set_cons_zero, List.set_cons_succ]
          refine wpAnyH_ready (rs := [6]) (by kernel_rfl) (by simp) ?_
          refine AllReadyH.cons (o := { dst := some 12, op := Go.Op.buildSlice 30 7 #[(0, Go.Operand.const (Go.Value.string { data := #[97, 98, 99] })), (1, Go.Operand.const (Go.Value.string { data := #[] })), (2, Go.Operand.const (Go.Value.string { data := #[97, 9, 98] })), (3, Go.Operand.const (Go.Value.string { data := #[126, 32, 120] })), (4, Go.Operand.tmp 7), (5, Go.Operand.tmp 9), (6, Go.Operand.tmp 11)], type := 30, pos := "l13_journal.go:160", after := #[{ on := 1, ground := Go.Ground.data }, { on := 3, ground := Go.Ground.data }, { on := 5, ground := Go.Ground.data }], guard := none }) rfl (fun K hK => ?_) AllReadyH.nil
          go_simp
          obtain ⟨t40, hw40⟩ : ∃ wn, wn = t39.alloc (.cells #[.string ⟨#[97, 98, 99]⟩, .string ⟨#[]⟩, .string ⟨#[97, 9, 98]⟩, .string ⟨#[126, 32, 120]⟩, .string sz, .string s9, .string s11] 9) := ⟨_, rfl⟩
          rw [← hw40]
          have HL40 := hid (HL39.out.add hw40)
          clear hw40
          refine hK.out _ _ HL40.out.st (fun hHeld => ?_)
          clear hK K
          try simp only [Act.put, List.setIfInBounds_toArray, List.set_cons_zero, List.set_cons_succ]
          obtain ⟨sr, xr, hxr, hsr, hcr⟩ := seven_at HL40.out.hd HSZ.out HS9.out HS11.out HR.out
          have HXR := hid hxr
          have HSR := hid hsr
          have q7 : (r : Int) < 7 := by have := HR.out; omega
          refine wpAnyH_take (i := 9) (oi := { dst := some 15, op := Go.Op.indexAddr 30 (Go.Operand.tmp 12) (Go.Operand.tmp 14), type := 0, pos := "l13_journal.go:160", after := #[{ on := 6, ground := Go.Ground.data }, { on := 8, ground := Go.Ground.data }], guard := none }) (v := .pointer (some ⟨t39.heap.size, r, none⟩)) rfl (by kernel_rfl) (by kernel_rfl) (by kernel_rfl) (fun _ _ _ h => h) (Or.inl ⟨by rfl, by intro w hSw; (try dsimp only at hSw); go_simp⟩) (by assumption) ?_
          simp only [Act.put, List.setIfInBounds_toArray, List.set_cons_zero, List.set_cons_succ]
          refine wpAnyH_ready (rs := [10]) (by kernel_rfl) (by simp) ?_
          refine AllReadyH.cons (o := { dst := some 16, op := Go.Op.load 9 (Go.Operand.tmp 15), type := 9, pos := "l13_journal.go:160", after := #[{ on := 9, ground := Go.Ground.data }], guard := none }) rfl (fun K hK => ?_) AllReadyH.nil
          go_simp
          refine hK.out _ _ HL40.out.st (fun hHeld => ?_)
          clear hK K
          try simp only [Act.put, List.setIfInBounds_toArray, List.set_cons_zero, List.set_cons_succ]
          refine wpAnyH_take (i := 11) (oi := { dst := some 2, op := Go.Op.assign (Go.Operand.tmp 16), type := 9, pos := "l13_journal.go:160", after := #[{ on := 10, ground := Go.Ground.data }, { on := 8, ground := Go.Ground.chain }, { on := 0, ground := Go.Ground.phase }, { on := 1, ground := Go.Ground.phase }, { on := 2, ground := Go.Ground.phase }, { on := 3, ground := Go.Ground.phase }, { on := 4, ground := Go.Ground.phase }, { on := 5, ground := Go.Ground.phase }, { on := 6, ground := Go.Ground.phase }, { on := 7, ground := Go.Ground.phase }, { on := 8, ground := Go.Ground.phase }, { on := 9, ground := Go.Ground.phase }, { on := 10, ground := Go.Ground.phase }], guard := none }) (v := .string sr) rfl (by kernel_rfl) (by kernel_rfl) (by kernel_rfl) (fun _ _ _ h => h) (Or.inl ⟨by rfl, by intro w hSw; (try dsimp only at hSw); go_simp⟩) (by assumption) ?_
          simp only [Act.put, List.setIfInBounds_toArray, List.set_cons_zero, List.set_cons_succ]
          refine wpAnyH_done (by kernel_rfl) ?_ _
          go_wp2
          go_ret
          exact ⟨xr, HXR.out, by rw [HSR.out]; rfl, HL40.out.st⟩
      · go_simp
        go_at_call 78
        refine (lineD w.heap.size w.heap.size len cap 1 a _ HL33.out.src (hcode.out _ HL33.out.st) (Nat.le_refl _) (by omega) (by omega)).mono ?_
        rintro z t42 ⟨x, hx, rfl, hs, hg⟩
        have HL42 := hid (HL33.out.turn hg hs)
        obtain ⟨s11, hsx⟩ : ∃ sx, sx = str x := ⟨_, rfl⟩
        have HS11 : Hid (∃ x : List UInt8, x.length ≤ 41 ∧ s11 = str x) := hid ⟨x, by omega, hsx⟩
        rw [← hsx]
        clear hs hg hx hsx
        go_wp2_with fail
        refine hK.out _ _ HL42.out.st (fun hHeld => ?_)
        clear hK K
        try simp only [Act.put, List.setIfInBounds_toArray, List.set_cons_zero, List.set_cons_succ]
        refine wpAnyH_ready (rs := [1, 8]) (by kernel_rfl) (by simp) ?_
        refine AllReadyH.cons (o := { dst := some 7, op := Go.Op.convert 24 9 (Go.Operand.tmp 6), type := 9, pos := "l13_journal.go:160", after := #[{ on := 0, ground := Go.Ground.data }], guard := none }) rfl (fun K hK => ?_) (AllReadyH.cons (o := { dst := some 14, op := Go.Op.call { callee := Go.Callee.value (Go.Operand.func 76), args := #[Go.Operand.tmp 13, Go.Operand.const (Go.Value.int Go.IntKind.i64 7)], argTypes := #[80, 2] }, type := 2, pos := "l13_journal.go:160", after := #[{ on := 7, ground := Go.Ground.data }, { on := 5, ground := Go.Ground.chain }], guard := none }) rfl (fun K hK => ?_) AllReadyH.nil)
        · have hcv := hconv _ _ (HL42.out.b _ (List.mem_cons_self ..)).1
          dsimp only at hcv
          go_simp
          clear hcv
          refine hK.out _ _ HL42.out.st (fun hHeld => ?_)
          clear hK K
          try simp only [Act.put, List.setIfInBounds_toArray, List.set_cons_zero, List.set_cons_succ]
          refine wpAnyH_ready (rs := [6, 8]) (by kernel_rfl) (by simp) ?_
          refine AllReadyH.cons (o := { dst := some 12, op := Go.Op.buildSlice 30 7 #[(0, Go.Operand.const (Go.Value.string { data := #[97, 98, 99] })), (1, Go.Operand.const (Go.Value.string { data := #[] })), (2, Go.Operand.const (Go.Value.string { data := #[97, 9, 98] })), (3, Go.Operand.const (Go.Value.string { data := #[126, 32, 120] })), (4, Go.Operand.tmp 7), (5, Go.Operand.tmp 9), (6, Go.Operand.tmp 11)], type := 30, pos := "l13_journal.go:160", after := #[{ on := 1, ground := Go.Ground.data }, { on := 3, ground := Go.Ground.data }, { on := 5, ground := Go.Ground.data }], guard := none }) rfl (fun K hK => ?_) (AllReadyH.cons (o := { dst := some 14, op := Go.Op.call { callee := Go.Callee.value (Go.Operand.func 76), args := #[Go.Operand.tmp 13, Go.Operand.const (Go.Value.int Go.IntKind.i64 7)], argTypes := #[80, 2] }, type := 2, pos := "l13_journal.go:160", after := #[{ on := 7, ground := Go.Ground.data }, { on := 5, ground := Go.Ground.chain }], guard := none }) rfl (fun K hK => ?_) AllReadyH.nil)
          · go_simp
            obtain ⟨t44, hw44⟩ : ∃ wn, wn = t42.alloc (.cells #[.string ⟨#[97, 98, 99]⟩, .string ⟨#[]⟩, .string ⟨#[97, 9, 98]⟩, .string ⟨#[126, 32, 120]⟩, .string sz, .string s9, .string s11] 9) := ⟨_, rfl⟩
            rw [← hw44]
            have HL44 := hid (HL42.out.add hw44)
            clear hw44
            refine hK.out _ _ HL44.out.st (fun hHeld => ?_)
            clear hK K
            try simp only [Act.put, List.setIfInBounds_toArray, List.set_cons_zero, List.set_cons_succ]
            refine wpAnyH_ready (rs := [8]) (by kernel_rfl) (by simp) ?_
            refine AllReadyH.cons (o := { dst := some 14, op := Go.Op.call { callee := Go.Callee.value (Go.Operand.func 76), args := #[Go.Operand.tmp 13, Go.Operand.const (Go.Value.int Go.IntKind.i64 7)], argTypes := #[80, 2] }, type := 2, pos := "l13_journal.go:160", after := #[{ on := 7, ground := Go.Ground.data }, { on := 5, ground := Go.Ground.chain }], guard := none }) rfl (fun K hK => ?_) AllReadyH.nil
            go_simp
            go_at_call 76
            refine (nextB w.heap.size w.heap.size len cap 2 7 a _ HL44.out.src (hcode.out _ HL44.out.st) (Nat.le_refl _) (by omega) (by omega) (by omega) (by omega)).mono ?_
            rintro z t45 ⟨r, hr, rfl, hs, hg⟩
            have HL45 := hid (HL44.out.turn hg hs)
            have HR := hid hr
            clear hs hg hr
            go_wp2_with fail
            refine hK.out _ _ HL45.out.st (fun hHeld => ?_)
            clear hK K
            try simp only [Act.put, List.setIfInBounds_toArray, List.set_cons_zero, List.set_cons_succ]
            obtain ⟨sr, xr, hxr, hsr, hcr⟩ := seven_at HL45.out.hd HSZ.out HS9.out HS11.out HR.out
            have HXR := hid hxr
            have HSR := hid hsr
            have q7 : (r : Int) < 7 := by have := HR.out; omega
            refine wpAnyH_take (i := 9) (oi := { dst := some 15, op := Go.Op.indexAddr 30 (Go.Operand.tmp 12) (Go.Operand.tmp 14), type := 0, pos := "l13_journal.go:160", after := #[{ on := 6, ground := Go.Ground.data }, { on := 8, ground := Go.Ground.data }], guard := none }) (v := .pointer (some ⟨t42.heap.size, r, none⟩)) rfl (by kernel_rfl) (by kernel_rfl) (by kernel_rfl) (fun _ _ _ h => h) (Or.inl ⟨by rfl, by intro w hSw; (try dsimp only at hSw); go_simp⟩) (by assumption) ?_
            simp only [Act.put, List.setIfInBounds_toArray, List.set_cons_zero, List.set_cons_succ]
            refine wpAnyH_ready (rs := [10]) (by kernel_rfl) (by simp) ?_
            refine AllReadyH.cons (o := { dst := some 16, op := Go.Op.load 9 (Go.Operand.tmp 15), type := 9, pos := "l13_journal.go:160", after := #[{ on := 9, ground := Go.Ground.data }], guard := none }) rfl (fun K hK => ?_) AllReadyH.nil
            go_simp
            refine hK.out _ _ HL45.out.st (fun hHeld => ?_)
            clear hK K
            try simp only [Act.put, List.setIfInBounds_toArray, List.set_cons_zero, List.set_cons_succ]
            refine wpAnyH_take (i := 11) (oi := { dst := some 2, op := Go.Op.assign (Go.Operand.tmp 16), type := 9, pos := "l13_journal.go:160", after := #[{ on := 10, ground := Go.Ground.data }, { on := 8, ground := Go.Ground.chain }, { on := 0, ground := Go.Ground.phase }, { on := 1, ground := Go.Ground.phase }, { on := 2, ground := Go.Ground.phase }, { on := 3, ground := Go.Ground.phase }, { on := 4, ground := Go.Ground.phase }, { on := 5, ground := Go.Ground.phase }, { on := 6, ground := Go.Ground.phase }, { on := 7, ground := Go.Ground.phase }, { on := 8, ground := Go.Ground.phase }, { on := 9, ground := Go.Ground.phase }, { on := 10, ground := Go.Ground.phase }], guard := none }) (v := .string sr) rfl (by kernel_rfl) (by kernel_rfl) (by kernel_rfl) (fun _ _ _ h => h) (Or.inl ⟨by rfl, by intro w hSw; (try dsimp only at hSw); go_simp⟩) (by assumption) ?_
            simp only [Act.put, List.setIfInBounds_toArray, List.set_cons_zero, List.set_cons_succ]
            refine wpAnyH_done (by kernel_rfl) ?_ _
            go_wp2
            go_ret
            exact ⟨xr, HXR.out, by rw [HSR.out]; rfl, HL45.out.st⟩
          · go_simp
            go_at_call 76
            refine (nextB w.heap.size w.heap.size len cap 2 7 a _ HL42.out.src (hcode.out _ HL42.out.st) (Nat.le_refl _) (by omega) (by omega) (by omega) (by omega)).mono ?_
            rintro z t47 ⟨r, hr, rfl, hs, hg⟩
            have HL47 := hid (HL42.out.turn hg hs)
            have HR := hid hr
            clear hs hg hr
            go_wp2_with fail
            refine hK.out _ _ HL47.out.st (fun hHeld => ?_)
            clear hK K
            try simp only [Act.put, List.setIfInBounds_toArray, List.set_cons_zero, List.set_cons_succ]
            refine wpAnyH_ready (rs := [6]) (by kernel_rfl) (by simp) ?_
            refine AllReadyH.cons (o := { dst := some 12, op := Go.Op.buildSlice 30 7 #[(0, Go.Operand.const (Go.Value.string { data := #[97, 98, 99] })), (1, Go.Operand.const (Go.Value.string { data := #[] })), (2, Go.Operand.const (Go.Value.string { data := #[97, 9, 98] })), (3, Go.Operand.const (Go.Value.string { data := #[126, 32, 120] })), (4, Go.Operand.tmp 7), (5, Go.Operand.tmp 9), (6, Go.Operand.tmp 11)], type := 30, pos := "l13_journal.go:160", after := #[{ on := 1, ground := Go.Ground.data }, { on := 3, ground := Go.Ground.data }, { on := 5, ground := Go.Ground.data }], guard := none }) rfl (fun K hK => ?_) AllReadyH.nil
            go_simp
            obtain ⟨t48, hw48⟩ : ∃ wn, wn = t47.alloc (.cells #[.string ⟨#[97, 98, 99]⟩, .string ⟨#[]⟩, .string ⟨#[97, 9, 98]⟩, .string ⟨#[126, 32, 120]⟩, .string sz, .string s9, .string s11] 9) := ⟨_, rfl⟩
            rw [← hw48]
            have HL48 := hid (HL47.out.add hw48)
            clear hw48
            refine hK.out _ _ HL48.out.st (fun hHeld => ?_)
            clear hK K
            try simp only [Act.put, List.setIfInBounds_toArray, List.set_cons_zero, List.set_cons_succ]
            obtain ⟨sr, xr, hxr, hsr, hcr⟩ := seven_at HL48.out.hd HSZ.out HS9.out HS11.out HR.out
            have HXR := hid hxr
            have HSR := hid hsr
            have q7 : (r : Int) < 7 := by have := HR.out; omega
            refine wpAnyH_take (i := 9) (oi := { dst := some 15, op := Go.Op.indexAddr 30 (Go.Operand.tmp 12) (Go.Operand.tmp 14), type := 0, pos := "l13_journal.go:160", after := #[{ on := 6, ground := Go.Ground.data }, { on := 8, ground := Go.Ground.data }], guard := none }) (v := .pointer (some ⟨t47.heap.size, r, none⟩)) rfl (by kernel_rfl) (by kernel_rfl) (by kernel_rfl) (fun _ _ _ h => h) (Or.inl ⟨by rfl, by intro w hSw; (try dsimp only at hSw); go_simp⟩) (by assumption) ?_
            simp only [Act.put, List.setIfInBounds_toArray, List.set_cons_zero, List.set_cons_succ]
            refine wpAnyH_ready (rs := [10]) (by kernel_rfl) (by simp) ?_
            refine AllReadyH.cons (o := { dst := some 16, op := Go.Op.load 9 (Go.Operand.tmp 15), type := 9, pos := "l13_journal.go:160", after := #[{ on := 9, ground := Go.Ground.data }], guard := none }) rfl (fun K hK => ?_) AllReadyH.nil
            go_simp
            refine hK.out _ _ HL48.out.st (fun hHeld => ?_)
            clear hK K
            try simp only [Act.put, List.setIfInBounds_toArray, List.set_cons_zero, List.set_cons_succ]
            refine wpAnyH_take (i := 11) (oi := { dst := some 2, op := Go.Op.assign (Go.Operand.tmp 16), type := 9, pos := "l13_journal.go:160", after := #[{ on := 10, ground := Go.Ground.data }, { on := 8, ground := Go.Ground.chain }, { on := 0, ground := Go.Ground.phase }, { on := 1, ground := Go.Ground.phase }, { on := 2, ground := Go.Ground.phase }, { on := 3, ground := Go.Ground.phase }, { on := 4, ground := Go.Ground.phase }, { on := 5, ground := Go.Ground.phase }, { on := 6, ground := Go.Ground.phase }, { on := 7, ground := Go.Ground.phase }, { on := 8, ground := Go.Ground.phase }, { on := 9, ground := Go.Ground.phase }, { on := 10, ground := Go.Ground.phase }], guard := none }) (v := .string sr) rfl (by kernel_rfl) (by kernel_rfl) (by kernel_rfl) (fun _ _ _ h => h) (Or.inl ⟨by rfl, by intro w hSw; (try dsimp only at hSw); go_simp⟩) (by assumption) ?_
            simp only [Act.put, List.setIfInBounds_toArray, List.set_cons_zero, List.set_cons_succ]
            refine wpAnyH_done (by kernel_rfl) ?_ _
            go_wp2
            go_ret
            exact ⟨xr, HXR.out, by rw [HSR.out]; rfl, HL48.out.st⟩
        · go_simp
          go_at_call 76
          refine (nextB w.heap.size w.heap.size len cap 2 7 a _ HL42.out.src (hcode.out _ HL42.out.st) (Nat.le_refl _) (by omega) (by omega) (by omega) (by omega)).mono ?_
          rintro z t50 ⟨r, hr, rfl, hs, hg⟩
          have HL50 := hid (HL42.out.turn hg hs)
          have HR := hid hr
          clear hs hg hr
          go_wp2_with fail
          refine hK.out _ _ HL50.out.st (fun hHeld => ?_)
          clear hK K
          try simp only [Act.put, List.setIfInBounds_toArray, List.set_cons_zero, List.set_cons_succ]
          refine wpAnyH_ready (rs := [1]) (by kernel_rfl) (by simp) ?_
          refine AllReadyH.cons (o := { dst := some 7, op := Go.Op.convert 24 9 (Go.Operand.tmp 6), type := 9, pos := "l13_journal.go:160", after := #[{ on := 0, ground := Go.Ground.data }], guard := none }) rfl (fun K hK => ?_) AllReadyH.nil
          have hcv := hconv _ _ (HL50.out.b _ (List.mem_cons_self ..)).1
          dsimp only at hcv
          go_simp
          clear hcv
          refine hK.out _ _ HL50.out.st (fun hHeld => ?_)
          clear hK K
          try simp only [Act.put, List.setIfInBounds_toArray, List.set_cons_zero, List.set_cons_succ]
          refine wpAnyH_ready (rs := [6]) (by kernel_rfl) (by simp) ?_
          refine AllReadyH.cons (o := { dst := some 12, op := Go.Op.buildSlice 30 7 #[(0, Go.Operand.const (Go.Value.string { data := #[97, 98, 99] })), (1, Go.Operand.const (Go.Value.string { data := #[] })), (2, Go.Operand.const (Go.Value.string { data := #[97, 9, 98] })), (3, Go.Operand.const (Go.Value.string { data := #[126, 32, 120] })), (4, Go.Operand.tmp 7), (5, Go.Operand.tmp 9), (6, Go.Operand.tmp 11)], type := 30, pos := "l13_journal.go:160", after := #[{ on := 1, ground := Go.Ground.data }, { on := 3, ground := Go.Ground.data }, { on := 5, ground := Go.Ground.data }], guard := none }) rfl (fun K hK => ?_) AllReadyH.nil
          go_simp
          obtain ⟨t52, hw52⟩ : ∃ wn, wn = t50.alloc (.cells #[.string ⟨#[97, 98, 99]⟩, .string ⟨#[]⟩, .string ⟨#[97, 9, 98]⟩, .string ⟨#[126, 32, 120]⟩, .string sz, .string s9, .string s11] 9) := ⟨_, rfl⟩
          rw [← hw52]
          have HL52 := hid (HL50.out.add hw52)
          clear hw52
          refine hK.out _ _ HL52.out.st (fun hHeld => ?_)
          clear hK K
          try simp only [Act.put, List.setIfInBounds_toArray, List.set_cons_zero, List.set_cons_succ]
          obtain ⟨sr, xr, hxr, hsr, hcr⟩ := seven_at HL52.out.hd HSZ.out HS9.out HS11.out HR.out
          have HXR := hid hxr
          have HSR := hid hsr
          have q7 : (r : Int) < 7 := by have := HR.out; omega
          refine wpAnyH_take (i := 9) (oi := { dst := some 15, op := Go.Op.indexAddr 30 (Go.Operand.tmp 12) (Go.Operand.tmp 14), type := 0, pos := "l13_journal.go:160", after := #[{ on := 6, ground := Go.Ground.data }, { on := 8, ground := Go.Ground.data }], guard := none }) (v := .pointer (some ⟨t50.heap.size, r, none⟩)) rfl (by kernel_rfl) (by kernel_rfl) (by kernel_rfl) (fun _ _ _ h => h) (Or.inl ⟨by rfl, by intro w hSw; (try dsimp only at hSw); go_simp⟩) (by assumption) ?_
          simp only [Act.put, List.setIfInBounds_toArray, List.set_cons_zero, List.set_cons_succ]
          refine wpAnyH_ready (rs := [10]) (by kernel_rfl) (by simp) ?_
          refine AllReadyH.cons (o := { dst := some 16, op := Go.Op.load 9 (Go.Operand.tmp 15), type := 9, pos := "l13_journal.go:160", after := #[{ on := 9, ground := Go.Ground.data }], guard := none }) rfl (fun K hK => ?_) AllReadyH.nil
          go_simp
          refine hK.out _ _ HL52.out.st (fun hHeld => ?_)
          clear hK K
          try simp only [Act.put, List.setIfInBounds_toArray, List.set_cons_zero, List.set_cons_succ]
          refine wpAnyH_take (i := 11) (oi := { dst := some 2, op := Go.Op.assign (Go.Operand.tmp 16), type := 9, pos := "l13_journal.go:160", after := #[{ on := 10, ground := Go.Ground.data }, { on := 8, ground := Go.Ground.chain }, { on := 0, ground := Go.Ground.phase }, { on := 1, ground := Go.Ground.phase }, { on := 2, ground := Go.Ground.phase }, { on := 3, ground := Go.Ground.phase }, { on := 4, ground := Go.Ground.phase }, { on := 5, ground := Go.Ground.phase }, { on := 6, ground := Go.Ground.phase }, { on := 7, ground := Go.Ground.phase }, { on := 8, ground := Go.Ground.phase }, { on := 9, ground := Go.Ground.phase }, { on := 10, ground := Go.Ground.phase }], guard := none }) (v := .string sr) rfl (by kernel_rfl) (by kernel_rfl) (by kernel_rfl) (fun _ _ _ h => h) (Or.inl ⟨by rfl, by intro w hSw; (try dsimp only at hSw); go_simp⟩) (by assumption) ?_
          simp only [Act.put, List.setIfInBounds_toArray, List.set_cons_zero, List.set_cons_succ]
          refine wpAnyH_done (by kernel_rfl) ?_ _
          go_wp2
          go_ret
          exact ⟨xr, HXR.out, by rw [HSR.out]; rfl, HL52.out.st⟩
    · go_simp
      go_at_call 78
      refine (lineD w.heap.size w.heap.size len cap 1 a _ HL32.out.src (hcode.out _ HL32.out.st) (Nat.le_refl _) (by omega) (by omega)).mono ?_
      rintro z t54 ⟨x, hx, rfl, hs, hg⟩
      have HL54 := hid (HL32.out.turn hg hs)
      obtain ⟨s11, hsx⟩ : ∃ sx, sx = str x := ⟨_, rfl⟩
      have HS11 : Hid (∃ x : List UInt8, x.length ≤ 41 ∧ s11 = str x) := hid ⟨x, by omega, hsx⟩
      rw [← hsx]
      clear hs hg hx hsx
      go_wp2_with fail
      refine hK.out _ _ HL54.out.st (fun hHeld => ?_)
      clear hK K
      try simp only [Act.put, List.setIfInBounds_toArray, List.set_cons_zero, List.set_cons_succ]
      refine wpAnyH_ready (rs := [0, 8]) (by kernel_rfl) (by simp) ?_
      refine AllReadyH.cons (o := { dst := some 6, op := Go.Op.makeSlice 24 (Go.Operand.const (Go.Value.int Go.IntKind.i64 41)) (Go.Operand.const (Go.Value.int Go.IntKind.i64 41)), type := 24, pos := "l13_journal.go:160", after := #[], guard := none }) rfl (fun K hK => ?_) (AllReadyH.cons (o := { dst := some 14, op := Go.Op.call { callee := Go.Callee.value (Go.Operand.func 76), args := #[Go.Operand.tmp 13, Go.Operand.const (Go.Value.int Go.IntKind.i64 7)], argTypes := #[80, 2] }, type := 2, pos := "l13_journal.go:160", after := #[{ on := 7, ground := Go.Ground.data }, { on := 5, ground := Go.Ground.chain }], guard := none }) rfl (fun K hK => ?_) AllReadyH.nil)
      · have hmk := hmake t54
        go_simp
        obtain ⟨t55, hw55⟩ : ∃ wn, wn = t54.alloc (.cells zs 5) := ⟨_, rfl⟩
        rw [← hw55]
        have HL55 := hid (HL54.out.add hw55)
        clear hw55 hmk
        refine hK.out _ _ HL55.out.st (fun hHeld => ?_)
        clear hK K
        try simp only [Act.put, List.setIfInBounds_toArray, List.set_cons_zero, List.set_cons_succ]
        refine wpAnyH_ready (rs := [1, 8]) (by kernel_rfl) (by simp) ?_
        refine AllReadyH.cons (o := { dst := some 7, op := Go.Op.convert 24 9 (Go.Operand.tmp 6), type := 9, pos := "l13_journal.go:160", after := #[{ on := 0, ground := Go.Ground.data }], guard := none }) rfl (fun K hK => ?_) (AllReadyH.cons (o := { dst := some 14, op := Go.Op.call { callee := Go.Callee.value (Go.Operand.func 76), args := #[Go.Operand.tmp 13, Go.Operand.const (Go.Value.int Go.IntKind.i64 7)], argTypes := #[80, 2] }, type := 2, pos := "l13_journal.go:160", after := #[{ on := 7, ground := Go.Ground.data }, { on := 5, ground := Go.Ground.chain }], guard := none }) rfl (fun K hK => ?_) AllReadyH.nil)
        · have hcv := hconv _ _ (HL55.out.b _ (List.mem_cons_self ..)).1
          dsimp only at hcv
          go_simp
          clear hcv
          refine hK.out _ _ HL55.out.st (fun hHeld => ?_)
          clear hK K
          try simp only [Act.put, List.setIfInBounds_toArray, List.set_cons_zero, List.set_cons_succ]
          refine wpAnyH_ready (rs := [6, 8]) (by kernel_rfl) (by simp) ?_
          refine AllReadyH.cons (o := { dst := some 12, op := Go.Op.buildSlice 30 7 #[(0, Go.Operand.const (Go.Value.string { data := #[97, 98, 99] })), (1, Go.Operand.const (Go.Value.string { data := #[] })), (2, Go.Operand.const (Go.Value.string { data := #[97, 9, 98] })), (3, Go.Operand.const (Go.Value.string { data := #[126, 32, 120] })), (4, Go.Operand.tmp 7), (5, Go.Operand.tmp 9), (6, Go.Operand.tmp 11)], type := 30, pos := "l13_journal.go:160", after := #[{ on := 1, ground := Go.Ground.data }, { on := 3, ground := Go.Ground.data }, { on := 5, ground := Go.Ground.data }], guard := none }) rfl (fun K hK => ?_) (AllReadyH.cons (o := { dst := some 14, op := Go.Op.call { callee := Go.Callee.value (Go.Operand.func 76), args := #[Go.Operand.tmp 13, Go.Operand.const (Go.Value.int Go.IntKind.i64 7)], argTypes := #[80, 2] }, type := 2, pos := "l13_journal.go:160", after := #[{ on := 7, ground := Go.Ground.data }, { on := 5, ground := Go.Ground.chain }], guard := none }) rfl (fun K hK => ?_) AllReadyH.nil)
          · go_simp
            obtain ⟨t57, hw57⟩ : ∃ wn, wn = t55.alloc (.cells #[.string ⟨#[97, 98, 99]⟩, .string ⟨#[]⟩, .string ⟨#[97, 9, 98]⟩, .string ⟨#[126, 32, 120]⟩, .string sz, .string s9, .string s11] 9) := ⟨_, rfl⟩
            rw [← hw57]
            have HL57 := hid (HL55.out.add hw57)
            clear hw57
            refine hK.out _ _ HL57.out.st (fun hHeld => ?_)
            clear hK K
            try simp only [Act.put, List.setIfInBounds_toArray, List.set_cons_zero, List.set_cons_succ]
            refine wpAnyH_ready (rs := [8]) (by kernel_rfl) (by simp) ?_
            refine AllReadyH.cons (o := { dst := some 14, op := Go.Op.call { callee := Go.Callee.value (Go.Operand.func 76), args := #[Go.Operand.tmp 13, Go.Operand.const (Go.Value.int Go.IntKind.i64 7)], argTypes := #[80, 2] }, type := 2, pos := "l13_journal.go:160", after := #[{ on := 7, ground := Go.Ground.data }, { on := 5, ground := Go.Ground.chain }], guard := none }) rfl (fun K hK => ?_) AllReadyH.nil
            go_simp
            go_at_call 76
            refine (nextB w.heap.size w.heap.size len cap 2 7 a _ HL57.out.src (hcode.out _ HL57.out.st) (Nat.le_refl _) (by omega) (by omega) (by omega) (by omega)).mono ?_
            rintro z t58 ⟨r, hr, rfl, hs, hg⟩
            have HL58 := hid (HL57.out.turn hg hs)
            have HR := hid hr
            clear hs hg hr
            go_wp2_with fail
            refine hK.out _ _ HL58.out.st (fun hHeld => ?_)
            clear hK K
            try simp only [Act.put, List.setIfInBounds_toArray, List.set_cons_zero, List.set_cons_succ]
            obtain ⟨sr, xr, hxr, hsr, hcr⟩ := seven_at HL58.out.hd HSZ.out HS9.out HS11.out HR.out
            have HXR := hid hxr
            have HSR := hid hsr
            have q7 : (r : Int) < 7 := by have := HR.out; omega
            refine wpAnyH_take (i := 9) (oi := { dst := some 15, op := Go.Op.indexAddr 30 (Go.Operand.tmp 12) (Go.Operand.tmp 14), type := 0, pos := "l13_journal.go:160", after := #[{ on := 6, ground := Go.Ground.data }, { on := 8, ground := Go.Ground.data }], guard := none }) (v := .pointer (some ⟨t55.heap.size, r, none⟩)) rfl (by kernel_rfl) (by kernel_rfl) (by kernel_rfl) (fun _ _ _ h => h) (Or.inl ⟨by rfl, by intro w hSw; (try dsimp only at hSw); go_simp⟩) (by assumption) ?_
            simp only [Act.put, List.setIfInBounds_toArray, List.set_cons_zero, List.set_cons_succ]
            refine wpAnyH_ready (rs := [10]) (by kernel_rfl) (by simp) ?_
            refine AllReadyH.cons (o := { dst := some 16, op := Go.Op.load 9 (Go.Operand.tmp 15), type := 9, pos := "l13_journal.go:160", after := #[{ on := 9, ground := Go.Ground.data }], guard := none }) rfl (fun K hK => ?_) AllReadyH.nil
            go_simp
            refine hK.out _ _ HL58.out.st (fun hHeld => ?_)
            clear hK K
            try simp only [Act.put, List.setIfInBounds_toArray, List.set_cons_zero, List.set_cons_succ]
            refine wpAnyH_take (i := 11) (oi := { dst := some 2, op := Go.Op.assign (Go.Operand.tmp 16), type := 9, pos := "l13_journal.go:160", after := #[{ on := 10, ground := Go.Ground.data }, { on := 8, ground := Go.Ground.chain }, { on := 0, ground := Go.Ground.phase }, { on := 1, ground := Go.Ground.phase }, { on := 2, ground := Go.Ground.phase }, { on := 3, ground := Go.Ground.phase }, { on := 4, ground := Go.Ground.phase }, { on := 5, ground := Go.Ground.phase }, { on := 6, ground := Go.Ground.phase }, { on := 7, ground := Go.Ground.phase }, { on := 8, ground := Go.Ground.phase }, { on := 9, ground := Go.Ground.phase }, { on := 10, ground := Go.Ground.phase }], guard := none }) (v := .string sr) rfl (by kernel_rfl) (by kernel_rfl) (by kernel_rfl) (fun _ _ _ h => h) (Or.inl ⟨by rfl, by intro w hSw; (try dsimp only at hSw); go_simp⟩) (by assumption) ?_
            simp only [Act.put, List.setIfInBounds_toArray, List.set_cons_zero, List.set_cons_succ]
            refine wpAnyH_done (by kernel_rfl) ?_ _
            go_wp2
            go_ret
            exact ⟨xr, HXR.out, by rw [HSR.out]; rfl, HL58.out.st⟩
          · go_simp
            go_at_call 76
            refine (nextB w.heap.size w.heap.size len cap 2 7 a _ HL55.out.src (hcode.out _ HL55.out.st) (Nat.le_refl _) (by omega) (by omega) (by omega) (by omega)).mono ?_
            rintro z t60 ⟨r, hr, rfl, hs, hg⟩
            have HL60 := hid (HL55.out.turn hg hs)
            have HR := hid hr
            clear hs hg hr
            go_wp2_with fail
            refine hK.out _ _ HL60.out.st (fun hHeld => ?_)
            clear hK K
            try simp only [Act.put, List.setIfInBounds_toArray, List.set_cons_zero, List.set_cons_succ]
            refine wpAnyH_ready (rs := [6]) (by kernel_rfl) (by simp) ?_
            refine AllReadyH.cons (o := { dst := some 12, op := Go.Op.buildSlice 30 7 #[(0, Go.Operand.const (Go.Value.string { data := #[97, 98, 99] })), (1, Go.Operand.const (Go.Value.string { data := #[] })), (2, Go.Operand.const (Go.Value.string { data := #[97, 9, 98] })), (3, Go.Operand.const (Go.Value.string { data := #[126, 32, 120] })), (4, Go.Operand.tmp 7), (5, Go.Operand.tmp 9), (6, Go.Operand.tmp 11)], type := 30, pos := "l13_journal.go:160", after := #[{ on := 1, ground := Go.Ground.data }, { on := 3, ground := Go.Ground.data }, { on := 5, ground := Go.Ground.data }], guard := none }) rfl (fun K hK => ?_) AllReadyH.nil
            go_simp
            obtain ⟨t61, hw61⟩ : ∃ wn, wn = t60.alloc (.cells #[.string ⟨#[97, 98, 99]⟩, .string ⟨#[]⟩, .string ⟨#[97, 9, 98]⟩, .string ⟨#[126, 32, 120]⟩, .string sz, .string s9, .string s11] 9) := ⟨_, rfl⟩
            rw [← hw61]
            have HL61 := hid (HL60.out.add hw61)
            clear hw61
            refine hK.out _ _ HL61.out.st (fun hHeld => ?_)
            clear hK K
            try simp only [Act.put, List.setIfInBounds_toArray, List.set_cons_zero, List.set_cons_succ]
            obtain ⟨sr, xr, hxr, hsr, hcr⟩ := seven_at HL61.out.hd HSZ.out HS9.out HS11.out HR.out
            have HXR := hid hxr
            have HSR := hid hsr
            have q7 : (r : Int) < 7 := by have := HR.out; omega
            refine wpAnyH_take (i := 9) (oi := { dst := some 15, op := Go.Op.indexAddr 30 (Go.Operand.tmp 12) (Go.Operand.tmp 14), type := 0, pos := "l13_journal.go:160", after := #[{ on := 6, ground := Go.Ground.data }, { on := 8, ground := Go.Ground.data }], guard := none }) (v := .pointer (some ⟨t60.heap.size, r, none⟩)) rfl (by kernel_rfl) (by kernel_rfl) (by kernel_rfl) (fun _ _ _ h => h) (Or.inl ⟨by rfl, by intro w hSw; (try dsimp only at hSw); go_simp⟩) (by assumption) ?_
            simp only [Act.put, List.setIfInBounds_toArray, List.set_cons_zero, List.set_cons_succ]
            refine wpAnyH_ready (rs := [10]) (by kernel_rfl) (by simp) ?_
            refine AllReadyH.cons (o := { dst := some 16, op := Go.Op.load 9 (Go.Operand.tmp 15), type := 9, pos := "l13_journal.go:160", after := #[{ on := 9, ground := Go.Ground.data }], guard := none }) rfl (fun K hK => ?_) AllReadyH.nil
            go_simp
            refine hK.out _ _ HL61.out.st (fun hHeld => ?_)
            clear hK K
            try simp only [Act.put, List.setIfInBounds_toArray, List.set_cons_zero, List.set_cons_succ]
            refine wpAnyH_take (i := 11) (oi := { dst := some 2, op := Go.Op.assign (Go.Operand.tmp 16), type := 9, pos := "l13_journal.go:160", after := #[{ on := 10, ground := Go.Ground.data }, { on := 8, ground := Go.Ground.chain }, { on := 0, ground := Go.Ground.phase }, { on := 1, ground := Go.Ground.phase }, { on := 2, ground := Go.Ground.phase }, { on := 3, ground := Go.Ground.phase }, { on := 4, ground := Go.Ground.phase }, { on := 5, ground := Go.Ground.phase }, { on := 6, ground := Go.Ground.phase }, { on := 7, ground := Go.Ground.phase }, { on := 8, ground := Go.Ground.phase }, { on := 9, ground := Go.Ground.phase }, { on := 10, ground := Go.Ground.phase }], guard := none }) (v := .string sr) rfl (by kernel_rfl) (by kernel_rfl) (by kernel_rfl) (fun _ _ _ h => h) (Or.inl ⟨by rfl, by intro w hSw; (try dsimp only at hSw); go_simp⟩) (by assumption) ?_
            simp only [Act.put, List.setIfInBounds_toArray, List.set_cons_zero, List.set_cons_succ]
            refine wpAnyH_done (by kernel_rfl) ?_ _
            go_wp2
            go_ret
            exact ⟨xr, HXR.out, by rw [HSR.out]; rfl, HL61.out.st⟩
        · go_simp
          go_at_call 76
          refine (nextB w.heap.size w.heap.size len cap 2 7 a _ HL55.out.src (hcode.out _ HL55.out.st) (Nat.le_refl _) (by omega) (by omega) (by omega) (by omega)).mono ?_
          rintro z t63 ⟨r, hr, rfl, hs, hg⟩
          have HL63 := hid (HL55.out.turn hg hs)
          have HR := hid hr
          clear hs hg hr
          go_wp2_with fail
          refine hK.out _ _ HL63.out.st (fun hHeld => ?_)
          clear hK K
          try simp only [Act.put, List.setIfInBounds_toArray, List.set_cons_zero, List.set_cons_succ]
          refine wpAnyH_ready (rs := [1]) (by kernel_rfl) (by simp) ?_
          refine AllReadyH.cons (o := { dst := some 7, op := Go.Op.convert 24 9 (Go.Operand.tmp 6), type := 9, pos := "l13_journal.go:160", after := #[{ on := 0, ground := Go.Ground.data }], guard := none }) rfl (fun K hK => ?_) AllReadyH.nil
          have hcv := hconv _ _ (HL63.out.b _ (List.mem_cons_self ..)).1
          dsimp only at hcv
          go_simp
          clear hcv
          refine hK.out _ _ HL63.out.st (fun hHeld => ?_)
          clear hK K
          try simp only [Act.put, List.setIfInBounds_toArray, List.set_cons_zero, List.set_cons_succ]
          refine wpAnyH_ready (rs := [6]) (by kernel_rfl) (by simp) ?_
          refine AllReadyH.cons (o := { dst := some 12, op := Go.Op.buildSlice 30 7 #[(0, Go.Operand.const (Go.Value.string { data := #[97, 98, 99] })), (1, Go.Operand.const (Go.Value.string { data := #[] })), (2, Go.Operand.const (Go.Value.string { data := #[97, 9, 98] })), (3, Go.Operand.const (Go.Value.string { data := #[126, 32, 120] })), (4, Go.Operand.tmp 7), (5, Go.Operand.tmp 9), (6, Go.Operand.tmp 11)], type := 30, pos := "l13_journal.go:160", after := #[{ on := 1, ground := Go.Ground.data }, { on := 3, ground := Go.Ground.data }, { on := 5, ground := Go.Ground.data }], guard := none }) rfl (fun K hK => ?_) AllReadyH.nil
          go_simp
          obtain ⟨t65, hw65⟩ : ∃ wn, wn = t63.alloc (.cells #[.string ⟨#[97, 98, 99]⟩, .string ⟨#[]⟩, .string ⟨#[97, 9, 98]⟩, .string ⟨#[126, 32, 120]⟩, .string sz, .string s9, .string s11] 9) := ⟨_, rfl⟩
          rw [← hw65]
          have HL65 := hid (HL63.out.add hw65)
          clear hw65
          refine hK.out _ _ HL65.out.st (fun hHeld => ?_)
          clear hK K
          try simp only [Act.put, List.setIfInBounds_toArray, List.set_cons_zero, List.set_cons_succ]
          obtain ⟨sr, xr, hxr, hsr, hcr⟩ := seven_at HL65.out.hd HSZ.out HS9.out HS11.out HR.out
          have HXR := hid hxr
          have HSR := hid hsr
          have q7 : (r : Int) < 7 := by have := HR.out; omega
          refine wpAnyH_take (i := 9) (oi := { dst := some 15, op := Go.Op.indexAddr 30 (Go.Operand.tmp 12) (Go.Operand.tmp 14), type := 0, pos := "l13_journal.go:160", after := #[{ on := 6, ground := Go.Ground.data }, { on := 8, ground := Go.Ground.data }], guard := none }) (v := .pointer (some ⟨t63.heap.size, r, none⟩)) rfl (by kernel_rfl) (by kernel_rfl) (by kernel_rfl) (fun _ _ _ h => h) (Or.inl ⟨by rfl, by intro w hSw; (try dsimp only at hSw); go_simp⟩) (by assumption) ?_
          simp only [Act.put, List.setIfInBounds_toArray, List.set_cons_zero, List.set_cons_succ]
          refine wpAnyH_ready (rs := [10]) (by kernel_rfl) (by simp) ?_
          refine AllReadyH.cons (o := { dst := some 16, op := Go.Op.load 9 (Go.Operand.tmp 15), type := 9, pos := "l13_journal.go:160", after := #[{ on := 9, ground := Go.Ground.data }], guard := none }) rfl (fun K hK => ?_) AllReadyH.nil
          go_simp
          refine hK.out _ _ HL65.out.st (fun hHeld => ?_)
          clear hK K
          try simp only [Act.put, List.setIfInBounds_toArray, List.set_cons_zero, List.set_cons_succ]
          refine wpAnyH_take (i := 11) (oi := { dst := some 2, op := Go.Op.assign (Go.Operand.tmp 16), type := 9, pos := "l13_journal.go:160", after := #[{ on := 10, ground := Go.Ground.data }, { on := 8, ground := Go.Ground.chain }, { on := 0, ground := Go.Ground.phase }, { on := 1, ground := Go.Ground.phase }, { on := 2, ground := Go.Ground.phase }, { on := 3, ground := Go.Ground.phase }, { on := 4, ground := Go.Ground.phase }, { on := 5, ground := Go.Ground.phase }, { on := 6, ground := Go.Ground.phase }, { on := 7, ground := Go.Ground.phase }, { on := 8, ground := Go.Ground.phase }, { on := 9, ground := Go.Ground.phase }, { on := 10, ground := Go.Ground.phase }], guard := none }) (v := .string sr) rfl (by kernel_rfl) (by kernel_rfl) (by kernel_rfl) (fun _ _ _ h => h) (Or.inl ⟨by rfl, by intro w hSw; (try dsimp only at hSw); go_simp⟩) (by assumption) ?_
          simp only [Act.put, List.setIfInBounds_toArray, List.set_cons_zero, List.set_cons_succ]
          refine wpAnyH_done (by kernel_rfl) ?_ _
          go_wp2
          go_ret
          exact ⟨xr, HXR.out, by rw [HSR.out]; rfl, HL65.out.st⟩
      · go_simp
        go_at_call 76
        refine (nextB w.heap.size w.heap.size len cap 2 7 a _ HL54.out.src (hcode.out _ HL54.out.st) (Nat.le_refl _) (by omega) (by omega) (by omega) (by omega)).mono ?_
        rintro z t67 ⟨r, hr, rfl, hs, hg⟩
        have HL67 := hid (HL54.out.turn hg hs)
        have HR := hid hr
        clear hs hg hr
        go_wp2_with fail
        refine hK.out _ _ HL67.out.st (fun hHeld => ?_)
        clear hK K
        try simp only [Act.put, List.setIfInBounds_toArray, List.set_cons_zero, List.set_cons_succ]
        refine wpAnyH_ready (rs := [0]) (by kernel_rfl) (by simp) ?_
        refine AllReadyH.cons (o := { dst := some 6, op := Go.Op.makeSlice 24 (Go.Operand.const (Go.Value.int Go.IntKind.i64 41)) (Go.Operand.const (Go.Value.int Go.IntKind.i64 41)), type := 24, pos := "l13_journal.go:160", after := #[], guard := none }) rfl (fun K hK => ?_) AllReadyH.nil
        have hmk := hmake t67
        go_simp
        obtain ⟨t68, hw68⟩ : ∃ wn, wn = t67.alloc (.cells zs 5) := ⟨_, rfl⟩
        rw [← hw68]
        have HL68 := hid (HL67.out.add hw68)
        clear hw68 hmk
        refine hK.out _ _ HL68.out.st (fun hHeld => ?_)
        clear hK K
        try simp only [Act.put, List.setIfInBounds_toArray, List.set_cons_zero, List.set_cons_succ]
        refine wpAnyH_ready (rs := [1]) (by kernel_rfl) (by simp) ?_
        refine AllReadyH.cons (o := { dst := some 7, op := Go.Op.convert 24 9 (Go.Operand.tmp 6), type := 9, pos := "l13_journal.go:160", after := #[{ on := 0, ground := Go.Ground.data }], guard := none }) rfl (fun K hK => ?_) AllReadyH.nil
        have hcv := hconv _ _ (HL68.out.b _ (List.mem_cons_self ..)).1
        dsimp only at hcv
        go_simp
        clear hcv
        refine hK.out _ _ HL68.out.st (fun hHeld => ?_)
        clear hK K
        try simp only [Act.put, List.setIfInBounds_toArray, List.set_cons_zero, List.set_cons_succ]
        refine wpAnyH_ready (rs := [6]) (by kernel_rfl) (by simp) ?_
        refine AllReadyH.cons (o := { dst := some 12, op := Go.Op.buildSlice 30 7 #[(0, Go.Operand.const (Go.Value.string { data := #[97, 98, 99] })), (1, Go.Operand.const (Go.Value.string { data := #[] })), (2, Go.Operand.const (Go.Value.string { data := #[97, 9, 98] })), (3, Go.Operand.const (Go.Value.string { data := #[126, 32, 120] })), (4, Go.Operand.tmp 7), (5, Go.Operand.tmp 9), (6, Go.Operand.tmp 11)], type := 30, pos := "l13_journal.go:160", after := #[{ on := 1, ground := Go.Ground.data }, { on := 3, ground := Go.Ground.data }, { on := 5, ground := Go.Ground.data }], guard := none }) rfl (fun K hK => ?_) AllReadyH.nil
        go_simp
        obtain ⟨t70, hw70⟩ : ∃ wn, wn = t68.alloc (.cells #[.string ⟨#[97, 98, 99]⟩, .string ⟨#[]⟩, .string ⟨#[97, 9, 98]⟩, .string ⟨#[126, 32, 120]⟩, .string sz, .string s9, .string s11] 9) := ⟨_, rfl⟩
        rw [← hw70]
        have HL70 := hid (HL68.out.add hw70)
        clear hw70
        refine hK.out _ _ HL70.out.st (fun hHeld => ?_)
        clear hK K
        try simp only [Act.put, List.setIfInBounds_toArray, List.set_cons_zero, List.set_cons_succ]
        obtain ⟨sr, xr, hxr, hsr, hcr⟩ := seven_at HL70.out.hd HSZ.out HS9.out HS11.out HR.out
        have HXR := hid hxr
        have HSR := hid hsr
        have q7 : (r : Int) < 7 := by have := HR.out; omega
        refine wpAnyH_take (i := 9) (oi := { dst := some 15, op := Go.Op.indexAddr 30 (Go.Operand.tmp 12) (Go.Operand.tmp 14), type := 0, pos := "l13_journal.go:160", after := #[{ on := 6, ground := Go.Ground.data }, { on := 8, ground := Go.Ground.data }], guard := none }) (v := .pointer (some ⟨t68.heap.size, r, none⟩)) rfl (by kernel_rfl) (by kernel_rfl) (by kernel_rfl) (fun _ _ _ h => h) (Or.inl ⟨by rfl, by intro w hSw; (try dsimp only at hSw); go_simp⟩) (by assumption) ?_
        simp only [Act.put, List.setIfInBounds_toArray, List.set_cons_zero, List.set_cons_succ]
        refine wpAnyH_ready (rs := [10]) (by kernel_rfl) (by simp) ?_
        refine AllReadyH.cons (o := { dst := some 16, op := Go.Op.load 9 (Go.Operand.tmp 15), type := 9, pos := "l13_journal.go:160", after := #[{ on := 9, ground := Go.Ground.data }], guard := none }) rfl (fun K hK => ?_) AllReadyH.nil
        go_simp
        refine hK.out _ _ HL70.out.st (fun hHeld => ?_)
        clear hK K
        try simp only [Act.put, List.setIfInBounds_toArray, List.set_cons_zero, List.set_cons_succ]
        refine wpAnyH_take (i := 11) (oi := { dst := some 2, op := Go.Op.assign (Go.Operand.tmp 16), type := 9, pos := "l13_journal.go:160", after := #[{ on := 10, ground := Go.Ground.data }, { on := 8, ground := Go.Ground.chain }, { on := 0, ground := Go.Ground.phase }, { on := 1, ground := Go.Ground.phase }, { on := 2, ground := Go.Ground.phase }, { on := 3, ground := Go.Ground.phase }, { on := 4, ground := Go.Ground.phase }, { on := 5, ground := Go.Ground.phase }, { on := 6, ground := Go.Ground.phase }, { on := 7, ground := Go.Ground.phase }, { on := 8, ground := Go.Ground.phase }, { on := 9, ground := Go.Ground.phase }, { on := 10, ground := Go.Ground.phase }], guard := none }) (v := .string sr) rfl (by kernel_rfl) (by kernel_rfl) (by kernel_rfl) (fun _ _ _ h => h) (Or.inl ⟨by rfl, by intro w hSw; (try dsimp only at hSw); go_simp⟩) (by assumption) ?_
        simp only [Act.put, List.setIfInBounds_toArray, List.set_cons_zero, List.set_cons_succ]
        refine wpAnyH_done (by kernel_rfl) ?_ _
        go_wp2
        go_ret
        exact ⟨xr, HXR.out, by rw [HSR.out]; rfl, HL70.out.st⟩
end Jn
end Go.Proofs.Ytiliahibnhfhoaa
