/- Draws of chapter 13: a journal. No condition. -/
import Derived.Test.YtiliahibnhfhoaaJdB
import Derived.Deep.RegionHeld3
namespace Go.Proofs.Ytiliahibnhfhoaa
open Go.RowKit
set_option linter.unusedVariables false
namespace Jn
/-- Amid the draw of a journal: the source, the journal's variable, what is answered. -/
structure JV (w wr : World) (S : Nat) (a : Option Addr) (len cap p : Nat) (v1 v2 : Value) (s l : List UInt8) : Prop where
  st : w.grownBy wr (some S)
  src : Drw.Src wr S a len cap p
  b : wr.heap[w.heap.size + 1]? = some (.cells #[v1, v2] 44 (0, 0))
  res : wr.heap[w.heap.size]? = some (.cells #[.slice none 0 0, .slice none 0 0] 44 (0, 0))
  jo : Jo wr (w.heap.size + 2) v1 v2 s l
  len : s.length + l.length ≤ 2400
  hS : S < w.heap.size
theorem JV.lt {w wr : World} {S : Nat} {a : Option Addr} {len cap p : Nat} {v1 v2 : Value} {s l : List UInt8} (h : JV w wr S a len cap p v1 v2 s l) : w.heap.size + 1 < wr.heap.size := blk_lt h.b
theorem JV.lt2 {w wr : World} {S : Nat} {a : Option Addr} {len cap p : Nat} {v1 v2 : Value} {s l : List UInt8} (h : JV w wr S a len cap p v1 v2 s l) : w.heap.size + 2 ≤ wr.heap.size := h.lt
theorem JV.sz {w wr : World} {S : Nat} {a : Option Addr} {len cap p : Nat} {v1 v2 : Value} {s l : List UInt8} (h : JV w wr S a len cap p v1 v2 s l) : w.heap.size + 2 ≤ wr.heap.size := h.lt
theorem JV.below {w wr : World} {S : Nat} {a : Option Addr} {len cap p : Nat} {v1 v2 : Value} {s l : List UInt8} (h : JV w wr S a len cap p v1 v2 s l) {w' : World} (hb : Below wr.heap.size wr w') : JV w w' S a len cap p v1 v2 s l :=
  ⟨Drw.grown_after h.st (grown_below hb), src_below h.src hb (by have := h.lt; have := h.hS; omega), (hb.block _ h.lt).trans h.b, (hb.block _ (by have := h.lt; omega)).trans h.res, h.jo.below hb (Nat.le_refl _), h.len, h.hS⟩
theorem JV.turn {w wr : World} {S : Nat} {a : Option Addr} {len cap p : Nat} {v1 v2 : Value} {s l : List UInt8} (h : JV w wr S a len cap p v1 v2 s l) {w' : World} {p' : Nat} (hx : S < w.heap.size) (hg : wr.grownBy w' (some S)) (hs : Drw.Src w' S a len cap p') : JV w w' S a len cap p' v1 v2 s l :=
  ⟨Drw.grown_after h.st hg, hs, (hg.block _ h.lt (fun e => by cases e; omega)).trans h.b, (hg.block _ (by have := h.lt; omega) (fun e => by cases e; omega)).trans h.res,
    h.jo.kept hg (fun b e f => by cases f; have := (h.jo.o1.lt _ e).1; omega) (fun b e f => by cases f; have := (h.jo.o2.lt _ e).1; omega), h.len, h.hS⟩
theorem jo_other {w : World} {B b c : Nat} {v1 v2 u : Value} {s l : List UInt8} (h : Jo w B v1 v2 s l) (n1 : ∀ x, v1.ownBlock = some x → x ≠ b) (n2 : ∀ x, v2.ownBlock = some x → x ≠ b) : Jo (w.setCell ⟨b, c, none⟩ u) B v1 v2 s l :=
  ⟨ownsRow_setCell_other h.o1 (a := ⟨b, c, none⟩) (fun e => n1 b e rfl) u, ownsRow_setCell_other h.o2 (a := ⟨b, c, none⟩) (fun e => n2 b e rfl) u, h.d⟩
theorem JV.set4 {w wr : World} {S : Nat} {a : Option Addr} {len cap p : Nat} {v1 v2 : Value} {s l : List UInt8} (h : JV w wr S a len cap p v1 v2 s l) {b : Nat} {a0 a1 a2 a3 : Value} (hb : w.heap.size + 1 < b) (n1 : ∀ x, v1.ownBlock = some x → x ≠ b) (n2 : ∀ x, v2.ownBlock = some x → x ≠ b) : JV w ((((wr.setCell ⟨b, 0, none⟩ a0).setCell ⟨b, 1, none⟩ a1).setCell ⟨b, 2, none⟩ a2).setCell ⟨b, 3, none⟩ a3) S a len cap p v1 v2 s l := by
  have hS := h.hS
  refine ⟨⟨h.st.os, h.st.tape, h.st.output, by have := h.st.size; simpa [World.setCell] using this, fun k hk hr => (heap4 (by omega) _ _ _ _).trans (h.st.block k hk hr)⟩, (heap4 (by omega) _ _ _ _).trans h.src, (heap4 (by omega) _ _ _ _).trans h.b, (heap4 (by omega) _ _ _ _).trans h.res, ?_, h.len, h.hS⟩
  exact jo_other (jo_other (jo_other (jo_other h.jo n1 n2) n1 n2) n1 n2) n1 n2
theorem JV.setj {w wr : World} {S : Nat} {a : Option Addr} {len cap p : Nat} {v1 v2 : Value} {s l : List UInt8} (h : JV w wr S a len cap p v1 v2 s l) {u1 u2 : Value} {s' l' : List UInt8} (hu1 : u1.oneCell' = true) (hu2 : u2.oneCell' = true) (hj : Jo wr (w.heap.size + 2) u1 u2 s' l') (hl : s'.length + l'.length ≤ 2400) : JV w ((wr.setCell ⟨w.heap.size + 1, 0, none⟩ u1).setCell ⟨w.heap.size + 1, 1, none⟩ u2) S a len cap p u1 u2 s' l' := by
  have hS := h.hS
  have e0 : ∀ k, k ≠ w.heap.size + 1 → ((wr.setCell ⟨w.heap.size + 1, 0, none⟩ u1).setCell ⟨w.heap.size + 1, 1, none⟩ u2).heap[k]? = wr.heap[k]? := fun k hk => (Below.heap_setCell _ _ _ _ hk).trans (Below.heap_setCell _ _ _ _ hk)
  refine ⟨⟨h.st.os, h.st.tape, h.st.output, by have := h.st.size; simpa [World.setCell] using this, fun k hk hr => (e0 k (by omega)).trans (h.st.block k hk hr)⟩, (e0 _ (by omega)).trans h.src, ?_, (e0 _ (by omega)).trans h.res, (hj.set (by omega)).set (by omega), hl, h.hS⟩
  have h1 := blk_set h.b 0 u1 hu1 (by simp)
  have h2 := blk_set h1 1 u2 hu2 (by simp)
  simpa using h2
theorem ap_len (s l x : List UInt8) : (okL (aC s l x) s).length + (okL (aC s l x) (l ++ packL x)).length ≤ 2400 := by
  unfold okL
  by_cases h : aC s l x = 0
  · rw [if_pos h, if_pos h, List.length_append, pack_len]
    unfold aC at h
    by_cases h1 : jF s l = 0
    · rw [if_pos h1] at h
      by_cases h2 : faultC x = 0
      · rw [if_pos h2] at h
        by_cases h3 : 2400 < s.length + (l.length + (x.length + 3))
        · rw [if_pos h3] at h; cases h
        · omega
      · rw [if_neg h2] at h; exact absurd h h2
    · rw [if_neg h1] at h; exact absurd h h1
  · rw [if_neg h, if_neg h]; simp
theorem sy_len (s l : List UInt8) : (okL (jF s l) (s ++ l)).length + (okL (jF s l) []).length ≤ 2400 := by
  unfold okL
  by_cases h : jF s l = 0
  · rw [if_pos h, if_pos h, List.length_append]
    have := of_jF h
    simp
    omega
  · rw [if_neg h, if_neg h]; simp
theorem jo_grow2 {wr w3 : World} {base : Nat} {v1 v2 v3 : Value} {s l z l3 : List UInt8} (h : Jo wr base v1 v2 s l) (hG : Grown wr base v2 l z v3 l3 w3) : Jo w3 base v1 v3 s l3 := by
  refine ⟨h.o1.kept hG.grown (fun b e f => h.d b e f), hG.own, fun b e f => ?_⟩
  rcases hG.blk with hb | hb
  · exact h.d b e (hb.symm.trans f)
  · have := (h.o1.lt b e).2
    rw [hb] at f
    cases f
    omega
theorem jo_grow1 {wr w3 : World} {base : Nat} {v1 v2 v3 : Value} {s l z s3 : List UInt8} (h : Jo wr base v1 v2 s l) (hG : Grown wr base v1 s z v3 s3 w3) : Jo w3 base v3 v2 s3 l := by
  refine ⟨hG.own, h.o2.kept hG.grown (fun b e f => h.d b f e), fun b e f => ?_⟩
  rcases hG.blk with hb | hb
  · exact h.d b (hb.symm.trans e) f
  · have := (h.o2.lt b f).2
    rw [hb] at e
    cases e
    omega
/-- The same without the journal. -/
structure JR (w wr : World) (S : Nat) (a : Option Addr) (len cap p : Nat) : Prop where
  st : w.grownBy wr (some S)
  src : Drw.Src wr S a len cap p
  res : wr.heap[w.heap.size]? = some (.cells #[.slice none 0 0, .slice none 0 0] 44 (0, 0))
  hS : S < w.heap.size
theorem JV.r {w wr : World} {S : Nat} {a : Option Addr} {len cap p : Nat} {v1 v2 : Value} {s l : List UInt8} (h : JV w wr S a len cap p v1 v2 s l) : JR w wr S a len cap p := ⟨h.st, h.src, h.res, h.hS⟩
theorem JR.grow {w wr w3 : World} {S : Nat} {a : Option Addr} {len cap p : Nat} {row : Option Nat} (h : JR w wr S a len cap p) (hg : wr.grownBy w3 row) (hr : ∀ b, row = some b → w.heap.size + 2 ≤ b) : JR w w3 S a len cap p := by
  have hS := h.hS
  have hl := blk_lt h.res
  have hne : ∀ k, k < w.heap.size + 2 → some k ≠ row := fun k hk e => by have := hr k e.symm; omega
  exact ⟨⟨hg.os.trans h.st.os, hg.tape.trans h.st.tape, hg.output.trans h.st.output, Nat.le_trans h.st.size hg.size, fun k hk hn => (hg.block k (Nat.lt_of_lt_of_le hk h.st.size) (hne k (by omega))).trans (h.st.block k hk hn)⟩, (hg.block S (by omega) (hne S (by omega))).trans h.src, (hg.block _ hl (hne _ (by omega))).trans h.res, h.hS⟩
theorem JR.set {w wr : World} {S : Nat} {a : Option Addr} {len cap p : Nat} (h : JR w wr S a len cap p) (i : Nat) (u : Value) : JR w (wr.setCell ⟨w.heap.size + 1, i, none⟩ u) S a len cap p := by
  have hS := h.hS
  have e0 : ∀ k, k ≠ w.heap.size + 1 → (wr.setCell ⟨w.heap.size + 1, i, none⟩ u).heap[k]? = wr.heap[k]? := fun k hk => Below.heap_setCell _ _ _ _ hk
  exact ⟨⟨h.st.os, h.st.tape, h.st.output, by have := h.st.size; simpa [World.setCell] using this, fun k hk hr => (e0 k (by omega)).trans (h.st.block k hk hr)⟩, (e0 _ (by omega)).trans h.src, (e0 _ (by omega)).trans h.res, h.hS⟩
/-- A journal that is drawn. -/
def JDraw (w : World) (S : Nat) (a : Option Addr) (len cap pos : Nat) (e : Ending) (w' : World) : Prop := ∃ (s l : List UInt8) (x1 : Option Addr) (k1 : Nat) (x2 : Option Addr) (k2 : Nat), e = .returned (.agg #[.slice x1 s.length k1, .slice x2 l.length k2]) ∧ Jo w' w.heap.size (.slice x1 s.length k1) (.slice x2 l.length k2) s l ∧ s.length ≤ 2401 ∧ l.length ≤ 2401 ∧ (∃ p, p ≤ pos + 20 ∧ Drw.Src w' S a len cap p) ∧ w.grownBy w' (some S)
theorem JR.done {w wr : World} {S : Nat} {a : Option Addr} {len cap p pos : Nat} (h : JR w wr S a len cap p) {x1 x2 : Option Addr} {k1 k2 : Nat} {s l : List UInt8} (hj : Jo wr (w.heap.size + 2) (.slice x1 s.length k1) (.slice x2 l.length k2) s l) (hs : s.length ≤ 2401) (hl : l.length ≤ 2401) (hp : p ≤ pos + 20) :
    ((wr.setCell ⟨w.heap.size, 0, none⟩ (.slice x1 s.length k1)).setCell ⟨w.heap.size, 1, none⟩ (.slice x2 l.length k2)).heap[w.heap.size]? = some (.cells #[.slice x1 s.length k1, .slice x2 l.length k2] 44 (0, 0)) ∧
    JDraw w S a len cap pos (.returned (.agg #[.slice x1 s.length k1, .slice x2 l.length k2])) ((wr.setCell ⟨w.heap.size, 0, none⟩ (.slice x1 s.length k1)).setCell ⟨w.heap.size, 1, none⟩ (.slice x2 l.length k2)) := by
  have hS := h.hS
  have e0 : ∀ k, k ≠ w.heap.size → ((wr.setCell ⟨w.heap.size, 0, none⟩ (.slice x1 s.length k1)).setCell ⟨w.heap.size, 1, none⟩ (.slice x2 l.length k2)).heap[k]? = wr.heap[k]? := fun k hk => (Below.heap_setCell _ _ _ _ hk).trans (Below.heap_setCell _ _ _ _ hk)
  refine ⟨?_, s, l, x1, k1, x2, k2, rfl, ((hj.set (by omega)).set (by omega)).mono (by omega), hs, hl, ⟨p, hp, (e0 _ (by omega)).trans h.src⟩, ⟨h.st.os, h.st.tape, h.st.output, by have := h.st.size; simpa [World.setCell] using this, fun k hk hr => (e0 k (by omega)).trans (h.st.block k hk hr)⟩⟩
  have h1 := blk_set h.res 0 (.slice x1 s.length k1) rfl (by simp)
  have h2 := blk_set h1 1 (.slice x2 l.length k2) rfl (by simp)
  simpa using h2
theorem info2 : (Try.prog.info? 44).map (·.size) = some 2 := by kernel_rfl
theorem zeros_vbs (n : Nat) : (madeCells (Value.int .u8 0).cells (n * 1)).toList = vbs (List.replicate n 0) := by
  rw [show (Value.int .u8 0).cells = #[Value.int .u8 0] from rfl, toList_madeCells_one, Nat.mul_one]
  simp [vbs, vb]
theorem zeros_ob (w : World) (n : Nat) (hn : n ≤ 4194304) : Ob (w.alloc (.cells (madeCells (Value.int .u8 0).cells (n * 1)) 5)) w.heap.size (.slice (some ⟨w.heap.size, 0, none⟩) n n) (List.replicate n 0) := by
  unfold Ob
  rw [List.length_replicate]
  refine ⟨by simp [vbs], .inr ⟨w.heap.size, n, _, rfl, Nat.le_refl _, heap_alloc_new w _, Nat.le_refl _, by unfold maxLen; omega, by simp [size_madeCells], ?_⟩⟩
  rw [zeros_vbs, List.take_of_length_le (by simp [vbs])]
set_option maxRecDepth 100000 in
set_option maxHeartbeats 16000000 in
theorem journalD (B S len cap pos : Nat) (a : Option Addr) (w : World) (hs : Drw.Src w S a len cap pos) (hc : Drw.CodeAt B w a len) (hBS : B ≤ S) (hln : len ≤ 2000000) (hp : pos ≤ 1000) :
    Calls Try.prog 74 #[.pointer (some ⟨S, 0, none⟩)] w (JDraw w S a len cap pos) := by
  have hSl := hs.lt
  have hcode := hid (fun w' (hg : w.grownBy w' (some S)) => hc.grown hg (by omega) (fun k e => by cases e; exact hBS))
  obtain ⟨hb0, hx0, hx1, hx2⟩ := two_blocks w #[.slice none 0 0, .slice none 0 0] #[.slice none 0 0, .slice none 0 0] 44 44
  have JI := hid (show JV w _ S a len cap pos (.slice none 0 0) (.slice none 0 0) [] [] from ⟨grown_below hb0, src_below hs hb0 hSl, hx1, hx0, jo_nil _ _, by simp, hSl⟩)
  obtain ⟨RR, hRR⟩ : ∃ RR, Hid (RR = JDraw w S a len cap pos) := ⟨_, hid rfl⟩
  rw [← hRR.out]
  clear hs hc hb0 hx0 hx1 hx2
  go_enter Try.func74, Try.ntmps74
  go_wp2_with fail
  refine (Drw.next B S len cap pos 7 a _ JI.out.src (hcode.out _ JI.out.st) hBS hln (by omega) (by omega) (by omega)).mono ?_
  rintro e w1 ⟨r, hr, rfl, hs1, hg1⟩
  have J1 := hid (JI.out.turn hSl hg1 hs1)
  clear JI hs1 hg1
  go_wp2
  go_loopw [4] (fun x wr => ∃ (kk p : Nat) (s l : List UInt8) (a1 : Option Addr) (k1 : Nat) (a2 : Option Addr) (k2 : Nat), x = .int .i64 (kk : Int) ∧ kk ≤ 6 ∧ p + 2 * kk ≤ pos + 13 ∧ Hid (JV w wr S a len cap p (.slice a1 s.length k1) (.slice a2 l.length k2) s l)) (fun x _ => (intOf x).toNat)
  case atStart => exact ⟨r, pos + 1, [], [], none, 0, none, 0, rfl, by omega, by omega, J1⟩
  case round =>
    obtain ⟨kk, p, s, l, a1, k1, a2, k2, rfl, hkk, hpk, J0⟩ := hrel
    by_cases hk0 : 0 < kk
    · have q1 : (0 : Int) < (kk : Int) := by omega
      have hlen0 := J0.out.len
      have J0d : JV w wr.drew S a len cap p (.slice a1 s.length k1) (.slice a2 l.length k2) s l := J0.out.below ((Below.refl wr.heap.size wr).drew)
      have lwr := J0.out.sz
      go_wp2_with fail
      refine wp_region_held_drew (S := fun wx => wx.heap[w.heap.size + 1]? = some (.cells #[.slice a1 s.length k1, .slice a2 l.length k2] 44 (0, 0))) (by kernel_rfl) J0d.b (fun hHeld => ?_)
      refine wpAnyH_take (i := 0) (oi := { dst := some 13, op := Go.Op.load 44 (Go.Operand.tmp 3), type := 44, pos := "l13_journal.go:140", after := #[], guard := none }) (v := .agg #[.slice a1 s.length k1, .slice a2 l.length k2]) rfl (by kernel_rfl) (by kernel_rfl) (by kernel_rfl) (fun _ _ _ h => h) (Or.inl ⟨by rfl, by intro w hSw; (try dsimp only at hSw); have ca := blk_cell hSw (o := 0) (v := .slice a1 s.length k1) rfl; have cb := blk_cell hSw (o := 1) (v := .slice a2 l.length k2) rfl; go_simp⟩) (by assumption) ?_
      simp only [Act.put, List.setIfInBounds_toArray, List.set_cons_zero, List.set_cons_succ]
      refine wpAnyH_take (i := 1) (oi := { dst := some 14, op := Go.Op.move (Go.Operand.tmp 0), type := 80, pos := "l13_journal.go:140", after := #[], guard := none }) (v := .pointer (some ⟨S, 0, none⟩)) rfl (by kernel_rfl) (by kernel_rfl) (by kernel_rfl) (fun _ _ _ h => h) (Or.inl ⟨by rfl, by intro w hSw; (try dsimp only at hSw); go_simp⟩) (by assumption) ?_
      simp only [Act.put, List.setIfInBounds_toArray, List.set_cons_zero, List.set_cons_succ]
      refine wpAnyH_ready (rs := [2, 4]) (by kernel_rfl) (by simp) ?_
      refine (AllReadyH.cons (o := { dst := some 15, op := Go.Op.call { callee := Go.Callee.value (Go.Operand.func 78), args := #[Go.Operand.tmp 14], argTypes := #[80] }, type := 9, pos := "l13_journal.go:140", after := #[{ on := 1, ground := Go.Ground.data }], guard := none }) rfl (fun K hK => ?_) (AllReadyH.cons (o := { dst := some 5, op := Go.Op.alloc 49, type := 0, pos := "l13_journal.go:140", after := #[], guard := none }) rfl (fun K hK => ?_) AllReadyH.nil))
      · go_simp
        go_at_call 78
        refine (lineD B S len cap p a _ J0d.src (hcode.out _ J0d.st) hBS hln (by omega)).mono ?_
        rintro z w2 ⟨x, hx, rfl, hs2, hg2⟩
        have J2 := J0d.turn (by omega) hg2 hs2
        clear hs2 hg2
        go_wp2_with fail
        refine hK.out _ _ J2.b (fun hHeld => ?_)
        clear hK K
        try simp only [Act.put, List.setIfInBounds_toArray, List.set_cons_zero, List.set_cons_succ]
        refine wpAnyH_ready (rs := [3, 4]) (by kernel_rfl) (by simp) ?_
        refine (AllReadyH.cons (o := { dst := some 16, op := Go.Op.call { callee := Go.Callee.value (Go.Operand.func 33), args := #[Go.Operand.tmp 13, Go.Operand.tmp 15], argTypes := #[44, 9] }, type := 49, pos := "l13_journal.go:140", after := #[{ on := 0, ground := Go.Ground.data }, { on := 2, ground := Go.Ground.data }, { on := 2, ground := Go.Ground.chain }], guard := none }) rfl (fun K hK => ?_) (AllReadyH.cons (o := { dst := some 5, op := Go.Op.alloc 49, type := 0, pos := "l13_journal.go:140", after := #[], guard := none }) rfl (fun K hK => ?_) AllReadyH.nil))
        · go_simp
          have HAP := hid (specAppend _ s l x _ _ _ (by omega) (by omega) (by omega) (Nat.le_refl _) J2.jo.o1.at J2.jo.o2.at)
          have hlen := ap_len s l x
          unfold APPost JPost at HAP
          generalize okN (aC s l x) (countN s (l ++ packL x)) = kn at HAP
          generalize okL (aC s l x) s = s5 at HAP hlen
          generalize okL (aC s l x) (l ++ packL x) = l5 at HAP hlen
          generalize aC s l x = kc at HAP
          go_at_call 33
          refine HAP.out.mono ?_
          rintro z w3 ⟨x1, j1, x2, j2, rfl, hj3, hb3⟩
          have J3 := J2.below hb3
          have lz := J2.sz
          have lb3 := hb3.size
          go_wp2_with fail
          refine hK.out _ _ J3.b (fun hHeld => ?_)
          clear hK K
          try simp only [Act.put, List.setIfInBounds_toArray, List.set_cons_zero, List.set_cons_succ]
          refine wpAnyH_ready (rs := [4]) (by kernel_rfl) (by simp) ?_
          refine (AllReadyH.cons (o := { dst := some 5, op := Go.Op.alloc 49, type := 0, pos := "l13_journal.go:140", after := #[], guard := none }) rfl (fun K hK => ?_) AllReadyH.nil)
          go_simp
          have J4 := J3.below ((Below.refl w3.heap.size w3).alloc (Nat.le_refl _) (.cells #[.int .i64 0, .int .i64 0, .slice none 0 0, .slice none 0 0] 49))
          refine hK.out _ _ J4.b (fun hHeld => ?_)
          clear hK K
          try simp only [Act.put, List.setIfInBounds_toArray, List.set_cons_zero, List.set_cons_succ]
          refine wpAnyH_ready (rs := [5]) (by kernel_rfl) (by simp) ?_
          refine (AllReadyH.cons (o := { dst := none, op := Go.Op.store 49 (Go.Operand.tmp 5) (Go.Operand.tmp 16), type := 0, pos := "l13_journal.go:140", after := #[{ on := 4, ground := Go.Ground.data }, { on := 3, ground := Go.Ground.data }, { on := 3, ground := Go.Ground.chain }, { on := 0, ground := Go.Ground.phase }, { on := 1, ground := Go.Ground.phase }, { on := 2, ground := Go.Ground.phase }, { on := 3, ground := Go.Ground.phase }, { on := 4, ground := Go.Ground.phase }], guard := none }) rfl (fun K hK => ?_) AllReadyH.nil)
          go_simp
          refine hK.out _ _ (J3.below ((Below.refl w3.heap.size w3).alloc (Nat.le_refl _) _)).b (fun hHeld => ?_)
          clear hK K
          try simp only [Act.put, List.setIfInBounds_toArray, List.set_cons_zero, List.set_cons_succ]
          refine wpAnyH_done (by kernel_rfl) ?_ _
          obtain ⟨wz, hwz⟩ : ∃ wz, wz = w3.alloc (.cells #[.int .i64 kc, .int .i64 (kn : Int), .slice x1 s5.length j1, .slice x2 l5.length j2] 49) := ⟨_, rfl⟩
          obtain ⟨g5, hg5⟩ : ∃ g5, g5 = w3.heap.size := ⟨_, rfl⟩
          have JZ : Hid (JV w wz S a len cap (p + 1) (.slice a1 s.length k1) (.slice a2 l.length k2) s l) := hid (by rw [hwz]; exact (J3.below ((Below.refl w3.heap.size w3).alloc (Nat.le_refl _) _)))
          have HBZ : Hid (wz.heap[g5]? = some (.cells #[.int .i64 kc, .int .i64 (kn : Int), .slice x1 s5.length j1, .slice x2 l5.length j2] 49 (0, 0))) := hid (by rw [hwz, hg5]; exact heap_alloc_new w3 _)
          have HOZ : Hid (Jo wz (w.heap.size + 2) (.slice x1 s5.length j1) (.slice x2 l5.length j2) s5 l5) := hid (by rw [hwz]; exact (hj3.below ((Below.refl w3.heap.size w3).alloc (Nat.le_refl _) _) (Nat.le_refl _)).mono (by omega))
          rw [← hwz, ← hg5]
          clear hwz hg5 hHeld J0d J2 J3 J4 hj3 hb3
          have z0 := blk_cell HBZ.out (o := 0) (v := .int .i64 kc) rfl
          have z2 := blk_cell HBZ.out (o := 2) (v := .slice x1 s5.length j1) rfl
          have z3 := blk_cell HBZ.out (o := 3) (v := .slice x2 l5.length j2) rfl
          have HLEN := hid hlen
          clear hlen
          by_cases hc0 : kc = 0
          · have b1 : (kc == 0) = true := beq_iff_eq.2 hc0
            have JY := hid (JZ.out.setj (u1 := .slice x1 s5.length j1) (u2 := .slice x2 l5.length j2) rfl rfl HOZ.out HLEN.out)
            have c0 := blk_cell JZ.out.b (o := 0) (v := .slice a1 s.length k1) rfl
            have c1 := blk_cell JZ.out.b (o := 1) (v := .slice a2 l.length k2) rfl
            have f0 := blk_free (o := 0) JZ.out.b
            have f1 := blk_free (o := 1) JZ.out.b
            clear hc0
            go_wp2_with fail
            refine (Drw.chance B S len cap (p + 1) 3 a _ JY.out.src (hcode.out _ JY.out.st) hBS hln (by omega) (by omega) (by omega)).mono ?_
            rintro e w5 ⟨t, rfl, hs5, hgg5⟩
            have J5 := hid (JY.out.turn (by omega) hgg5 hs5)
            clear hs5 hgg5
            cases t
            · go_wp2
              exact ⟨⟨kk - 1, p + 2, s5, l5, x1, j1, x2, j2, by simp; omega, by omega, by omega, J5⟩, by simp [intOf]; omega⟩
            · have d0 := blk_cell J5.out.b (o := 0) (v := .slice x1 s5.length j1) rfl
              have d1 := blk_cell J5.out.b (o := 1) (v := .slice x2 l5.length j2) rfl
              have HSY := hid (specSync _ s5 l5 _ _ w5 (by have := J5.out.len; omega) (by have := J5.out.len; omega) (Nat.le_refl _) J5.out.jo.o1.at J5.out.jo.o2.at)
              have hln2 := sy_len s5 l5
              unfold SYPost JPost at HSY
              generalize okN (jF s5 l5) (countN (s5 ++ l5) []) = kn2 at HSY
              generalize okL (jF s5 l5) (s5 ++ l5) = s6 at HSY hln2
              generalize okL (jF s5 l5) [] = l6 at HSY hln2
              generalize jF s5 l5 = kc2 at HSY
              have HLN2 := hid hln2
              clear hln2
              go_wp2_with fail
              refine HSY.out.mono ?_
              rintro e w6 ⟨y1, m1, y2, m2, rfl, hj6, hb6⟩
              have hfd : ∀ w' : World, Sem.run Try.prog (Instr.field 49 (.agg #[.int .i64 kc2, .int .i64 (kn2 : Int), .slice y1 s6.length m1, .slice y2 l6.length m2]) 2) w' = .ok (.agg #[.slice y1 s6.length m1, .slice y2 l6.length m2]) w' := fun w' => by kernel_rfl
              have J6 := hid (J5.out.below hb6)
              have hl5 := J5.out.lt2
              have J7 := hid (J6.out.setj (u1 := .slice y1 s6.length m1) (u2 := .slice y2 l6.length m2) rfl rfl (hj6.mono (by omega)) HLN2.out)
              have e0 := blk_cell J6.out.b (o := 0) (v := .slice x1 s5.length j1) rfl
              have e1 := blk_cell J6.out.b (o := 1) (v := .slice x2 l5.length j2) rfl
              have f0 := blk_free (o := 0) J6.out.b
              have f1 := blk_free (o := 1) J6.out.b
              clear hb6 hj6 d0 d1
              go_wp2
              exact ⟨⟨kk - 1, p + 2, s6, l6, y1, m1, y2, m2, by simp; omega, by omega, by omega, J7⟩, by simp [intOf]; omega⟩
          · have b1 : (kc == 0) = false := beq_eq_false_iff_ne.2 hc0
            clear hc0
            go_wp2_with fail
            refine (Drw.chance B S len cap (p + 1) 3 a _ JZ.out.src (hcode.out _ JZ.out.st) hBS hln (by omega) (by omega) (by omega)).mono ?_
            rintro e w5 ⟨t, rfl, hs5, hgg5⟩
            have J5 := hid (JZ.out.turn (by omega) hgg5 hs5)
            clear hs5 hgg5
            cases t
            · go_wp2
              exact ⟨⟨kk - 1, p + 2, s, l, a1, k1, a2, k2, by simp; omega, by omega, by omega, J5⟩, by simp [intOf]; omega⟩
            · have d0 := blk_cell J5.out.b (o := 0) (v := .slice a1 s.length k1) rfl
              have d1 := blk_cell J5.out.b (o := 1) (v := .slice a2 l.length k2) rfl
              have HSY := hid (specSync _ s l _ _ w5 (by have := J5.out.len; omega) (by have := J5.out.len; omega) (Nat.le_refl _) J5.out.jo.o1.at J5.out.jo.o2.at)
              have hln2 := sy_len s l
              unfold SYPost JPost at HSY
              generalize okN (jF s l) (countN (s ++ l) []) = kn2 at HSY
              generalize okL (jF s l) (s ++ l) = s6 at HSY hln2
              generalize okL (jF s l) [] = l6 at HSY hln2
              generalize jF s l = kc2 at HSY
              have HLN2 := hid hln2
              clear hln2
              go_wp2_with fail
              refine HSY.out.mono ?_
              rintro e w6 ⟨y1, m1, y2, m2, rfl, hj6, hb6⟩
              have hfd : ∀ w' : World, Sem.run Try.prog (Instr.field 49 (.agg #[.int .i64 kc2, .int .i64 (kn2 : Int), .slice y1 s6.length m1, .slice y2 l6.length m2]) 2) w' = .ok (.agg #[.slice y1 s6.length m1, .slice y2 l6.length m2]) w' := fun w' => by kernel_rfl
              have J6 := hid (J5.out.below hb6)
              have hl5 := J5.out.lt2
              have J7 := hid (J6.out.setj (u1 := .slice y1 s6.length m1) (u2 := .slice y2 l6.length m2) rfl rfl (hj6.mono (by omega)) HLN2.out)
              have e0 := blk_cell J6.out.b (o := 0) (v := .slice a1 s.length k1) rfl
              have e1 := blk_cell J6.out.b (o := 1) (v := .slice a2 l.length k2) rfl
              have f0 := blk_free (o := 0) J6.out.b
              have f1 := blk_free (o := 1) J6.out.b
              clear hb6 hj6 d0 d1
              go_wp2
              exact ⟨⟨kk - 1, p + 2, s6, l6, y1, m1, y2, m2, by simp; omega, by omega, by omega, J7⟩, by simp [intOf]; omega⟩
        · have lw2 := J2.sz
          go_simp
          have J3x := J2.below ((Below.refl w2.heap.size w2).alloc (Nat.le_refl _) (.cells #[.int .i64 0, .int .i64 0, .slice none 0 0, .slice none 0 0] 49))
          refine hK.out _ _ J3x.b (fun hHeld => ?_)
          clear hK K
          try simp only [Act.put, List.setIfInBounds_toArray, List.set_cons_zero, List.set_cons_succ]
          refine wpAnyH_ready (rs := [3]) (by kernel_rfl) (by simp) ?_
          refine (AllReadyH.cons (o := { dst := some 16, op := Go.Op.call { callee := Go.Callee.value (Go.Operand.func 33), args := #[Go.Operand.tmp 13, Go.Operand.tmp 15], argTypes := #[44, 9] }, type := 49, pos := "l13_journal.go:140", after := #[{ on := 0, ground := Go.Ground.data }, { on := 2, ground := Go.Ground.data }, { on := 2, ground := Go.Ground.chain }], guard := none }) rfl (fun K hK => ?_) AllReadyH.nil)
          go_simp
          have HAP := hid (specAppend _ s l x _ _ _ (by omega) (by omega) (by omega) (Nat.le_refl _) J3x.jo.o1.at J3x.jo.o2.at)
          have hlen := ap_len s l x
          unfold APPost JPost at HAP
          generalize okN (aC s l x) (countN s (l ++ packL x)) = kn at HAP
          generalize okL (aC s l x) s = s5 at HAP hlen
          generalize okL (aC s l x) (l ++ packL x) = l5 at HAP hlen
          generalize aC s l x = kc at HAP
          go_at_call 33
          refine HAP.out.mono ?_
          rintro z w3 ⟨x1, j1, x2, j2, rfl, hj3, hb3⟩
          have J3 := J3x.below hb3
          have lz := J3x.sz
          have lb3 := hb3.size
          go_wp2_with fail
          refine hK.out _ _ J3.b (fun hHeld => ?_)
          clear hK K
          try simp only [Act.put, List.setIfInBounds_toArray, List.set_cons_zero, List.set_cons_succ]
          have hblk := (hb3.block _ (by simp)).trans (heap_alloc_new w2 _)
          have t0 := blk_cell hblk (o := 0) (v := .int .i64 0) rfl
          have t1 := blk_cell hblk (o := 1) (v := .int .i64 0) rfl
          have t2 := blk_cell hblk (o := 2) (v := .slice none 0 0) rfl
          have t3 := blk_cell hblk (o := 3) (v := .slice none 0 0) rfl
          have tf0 := blk_free (o := 0) hblk
          have tf1 := blk_free (o := 1) hblk
          have tf2 := blk_free (o := 2) hblk
          have tf3 := blk_free (o := 3) hblk
          refine wpAnyH_ready (rs := [5]) (by kernel_rfl) (by simp) ?_
          refine (AllReadyH.cons (o := { dst := none, op := Go.Op.store 49 (Go.Operand.tmp 5) (Go.Operand.tmp 16), type := 0, pos := "l13_journal.go:140", after := #[{ on := 4, ground := Go.Ground.data }, { on := 3, ground := Go.Ground.data }, { on := 3, ground := Go.Ground.chain }, { on := 0, ground := Go.Ground.phase }, { on := 1, ground := Go.Ground.phase }, { on := 2, ground := Go.Ground.phase }, { on := 3, ground := Go.Ground.phase }, { on := 4, ground := Go.Ground.phase }], guard := none }) rfl (fun K hK => ?_) AllReadyH.nil)
          go_simp
          refine hK.out _ _ (J3.set4 (b := w2.heap.size) (by omega) (fun y e => by have := (J2.jo.o1.lt y e).2; omega) (fun y e => by have := (J2.jo.o2.lt y e).2; omega)).b (fun hHeld => ?_)
          clear hK K
          try simp only [Act.put, List.setIfInBounds_toArray, List.set_cons_zero, List.set_cons_succ]
          refine wpAnyH_done (by kernel_rfl) ?_ _
          obtain ⟨wz, hwz⟩ : ∃ wz, wz = ((((w3.setCell ⟨w2.heap.size, 0, none⟩ (.int .i64 kc)).setCell ⟨w2.heap.size, 1, none⟩ (.int .i64 (kn : Int))).setCell ⟨w2.heap.size, 2, none⟩ (.slice x1 s5.length j1)).setCell ⟨w2.heap.size, 3, none⟩ (.slice x2 l5.length j2)) := ⟨_, rfl⟩
          obtain ⟨g5, hg5⟩ : ∃ g5, g5 = w2.heap.size := ⟨_, rfl⟩
          have JZ : Hid (JV w wz S a len cap (p + 1) (.slice a1 s.length k1) (.slice a2 l.length k2) s l) := hid (by rw [hwz]; exact (J3.set4 (b := w2.heap.size) (by omega) (fun y e => by have := (J2.jo.o1.lt y e).2; omega) (fun y e => by have := (J2.jo.o2.lt y e).2; omega)))
          have HBZ : Hid (wz.heap[g5]? = some (.cells #[.int .i64 kc, .int .i64 (kn : Int), .slice x1 s5.length j1, .slice x2 l5.length j2] 49 (0, 0))) := hid (by rw [hwz, hg5]; exact set4 hblk _ _ _ _)
          have HOZ : Hid (Jo wz (w.heap.size + 2) (.slice x1 s5.length j1) (.slice x2 l5.length j2) s5 l5) := hid (by rw [hwz]; exact (jo4 hj3 (by simp)).mono (by omega))
          rw [← hwz, ← hg5]
          clear hwz hg5 hHeld hblk hj3 hb3 t0 t1 t2 t3 tf0 tf1 tf2 tf3 J0d J2 J3x J3
          have z0 := blk_cell HBZ.out (o := 0) (v := .int .i64 kc) rfl
          have z2 := blk_cell HBZ.out (o := 2) (v := .slice x1 s5.length j1) rfl
          have z3 := blk_cell HBZ.out (o := 3) (v := .slice x2 l5.length j2) rfl
          have HLEN := hid hlen
          clear hlen
          by_cases hc0 : kc = 0
          · have b1 : (kc == 0) = true := beq_iff_eq.2 hc0
            have JY := hid (JZ.out.setj (u1 := .slice x1 s5.length j1) (u2 := .slice x2 l5.length j2) rfl rfl HOZ.out HLEN.out)
            have c0 := blk_cell JZ.out.b (o := 0) (v := .slice a1 s.length k1) rfl
            have c1 := blk_cell JZ.out.b (o := 1) (v := .slice a2 l.length k2) rfl
            have f0 := blk_free (o := 0) JZ.out.b
            have f1 := blk_free (o := 1) JZ.out.b
            clear hc0
            go_wp2_with fail
            refine (Drw.chance B S len cap (p + 1) 3 a _ JY.out.src (hcode.out _ JY.out.st) hBS hln (by omega) (by omega) (by omega)).mono ?_
            rintro e w5 ⟨t, rfl, hs5, hgg5⟩
            have J5 := hid (JY.out.turn (by omega) hgg5 hs5)
            clear hs5 hgg5
            cases t
            · go_wp2
              exact ⟨⟨kk - 1, p + 2, s5, l5, x1, j1, x2, j2, by simp; omega, by omega, by omega, J5⟩, by simp [intOf]; omega⟩
            · have d0 := blk_cell J5.out.b (o := 0) (v := .slice x1 s5.length j1) rfl
              have d1 := blk_cell J5.out.b (o := 1) (v := .slice x2 l5.length j2) rfl
              have HSY := hid (specSync _ s5 l5 _ _ w5 (by have := J5.out.len; omega) (by have := J5.out.len; omega) (Nat.le_refl _) J5.out.jo.o1.at J5.out.jo.o2.at)
              have hln2 := sy_len s5 l5
              unfold SYPost JPost at HSY
              generalize okN (jF s5 l5) (countN (s5 ++ l5) []) = kn2 at HSY
              generalize okL (jF s5 l5) (s5 ++ l5) = s6 at HSY hln2
              generalize okL (jF s5 l5) [] = l6 at HSY hln2
              generalize jF s5 l5 = kc2 at HSY
              have HLN2 := hid hln2
              clear hln2
              go_wp2_with fail
              refine HSY.out.mono ?_
              rintro e w6 ⟨y1, m1, y2, m2, rfl, hj6, hb6⟩
              have hfd : ∀ w' : World, Sem.run Try.prog (Instr.field 49 (.agg #[.int .i64 kc2, .int .i64 (kn2 : Int), .slice y1 s6.length m1, .slice y2 l6.length m2]) 2) w' = .ok (.agg #[.slice y1 s6.length m1, .slice y2 l6.length m2]) w' := fun w' => by kernel_rfl
              have J6 := hid (J5.out.below hb6)
              have hl5 := J5.out.lt2
              have J7 := hid (J6.out.setj (u1 := .slice y1 s6.length m1) (u2 := .slice y2 l6.length m2) rfl rfl (hj6.mono (by omega)) HLN2.out)
              have e0 := blk_cell J6.out.b (o := 0) (v := .slice x1 s5.length j1) rfl
              have e1 := blk_cell J6.out.b (o := 1) (v := .slice x2 l5.length j2) rfl
              have f0 := blk_free (o := 0) J6.out.b
              have f1 := blk_free (o := 1) J6.out.b
              clear hb6 hj6 d0 d1
              go_wp2
              exact ⟨⟨kk - 1, p + 2, s6, l6, y1, m1, y2, m2, by simp; omega, by omega, by omega, J7⟩, by simp [intOf]; omega⟩
          · have b1 : (kc == 0) = false := beq_eq_false_iff_ne.2 hc0
            clear hc0
            go_wp2_with fail
            refine (Drw.chance B S len cap (p + 1) 3 a _ JZ.out.src (hcode.out _ JZ.out.st) hBS hln (by omega) (by omega) (by omega)).mono ?_
            rintro e w5 ⟨t, rfl, hs5, hgg5⟩
            have J5 := hid (JZ.out.turn (by omega) hgg5 hs5)
            clear hs5 hgg5
            cases t
            · go_wp2
              exact ⟨⟨kk - 1, p + 2, s, l, a1, k1, a2, k2, by simp; omega, by omega, by omega, J5⟩, by simp [intOf]; omega⟩
            · have d0 := blk_cell J5.out.b (o := 0) (v := .slice a1 s.length k1) rfl
              have d1 := blk_cell J5.out.b (o := 1) (v := .slice a2 l.length k2) rfl
              have HSY := hid (specSync _ s l _ _ w5 (by have := J5.out.len; omega) (by have := J5.out.len; omega) (Nat.le_refl _) J5.out.jo.o1.at J5.out.jo.o2.at)
              have hln2 := sy_len s l
              unfold SYPost JPost at HSY
              generalize okN (jF s l) (countN (s ++ l) []) = kn2 at HSY
              generalize okL (jF s l) (s ++ l) = s6 at HSY hln2
              generalize okL (jF s l) [] = l6 at HSY hln2
              generalize jF s l = kc2 at HSY
              have HLN2 := hid hln2
              clear hln2
              go_wp2_with fail
              refine HSY.out.mono ?_
              rintro e w6 ⟨y1, m1, y2, m2, rfl, hj6, hb6⟩
              have hfd : ∀ w' : World, Sem.run Try.prog (Instr.field 49 (.agg #[.int .i64 kc2, .int .i64 (kn2 : Int), .slice y1 s6.length m1, .slice y2 l6.length m2]) 2) w' = .ok (.agg #[.slice y1 s6.length m1, .slice y2 l6.length m2]) w' := fun w' => by kernel_rfl
              have J6 := hid (J5.out.below hb6)
              have hl5 := J5.out.lt2
              have J7 := hid (J6.out.setj (u1 := .slice y1 s6.length m1) (u2 := .slice y2 l6.length m2) rfl rfl (hj6.mono (by omega)) HLN2.out)
              have e0 := blk_cell J6.out.b (o := 0) (v := .slice a1 s.length k1) rfl
              have e1 := blk_cell J6.out.b (o := 1) (v := .slice a2 l.length k2) rfl
              have f0 := blk_free (o := 0) J6.out.b
              have f1 := blk_free (o := 1) J6.out.b
              clear hb6 hj6 d0 d1
              go_wp2
              exact ⟨⟨kk - 1, p + 2, s6, l6, y1, m1, y2, m2, by simp; omega, by omega, by omega, J7⟩, by simp [intOf]; omega⟩
      · go_simp
        have J1 := J0d.below ((Below.refl wr.drew.heap.size wr.drew).alloc (Nat.le_refl _) (.cells #[.int .i64 0, .int .i64 0, .slice none 0 0, .slice none 0 0] 49))
        refine hK.out _ _ J1.b (fun hHeld => ?_)
        clear hK K
        try simp only [Act.put, List.setIfInBounds_toArray, List.set_cons_zero, List.set_cons_succ]
        refine wpAnyH_ready (rs := [2]) (by kernel_rfl) (by simp) ?_
        refine (AllReadyH.cons (o := { dst := some 15, op := Go.Op.call { callee := Go.Callee.value (Go.Operand.func 78), args := #[Go.Operand.tmp 14], argTypes := #[80] }, type := 9, pos := "l13_journal.go:140", after := #[{ on := 1, ground := Go.Ground.data }], guard := none }) rfl (fun K hK => ?_) AllReadyH.nil)
        go_simp
        go_at_call 78
        refine (lineD B S len cap p a _ J1.src (hcode.out _ J1.st) hBS hln (by omega)).mono ?_
        rintro z w2 ⟨x, hx, rfl, hs2, hg2⟩
        have J2 := J1.turn (by omega) hg2 hs2
        have hdk := (hg2.block wr.heap.size (by simp) (fun e => by cases e; omega)).trans (heap_alloc_new wr.drew (.cells #[.int .i64 0, .int .i64 0, .slice none 0 0, .slice none 0 0] 49))
        have ldk := blk_lt hdk
        clear hs2 hg2
        go_wp2_with fail
        refine hK.out _ _ J2.b (fun hHeld => ?_)
        clear hK K
        try simp only [Act.put, List.setIfInBounds_toArray, List.set_cons_zero, List.set_cons_succ]
        refine wpAnyH_ready (rs := [3]) (by kernel_rfl) (by simp) ?_
        refine (AllReadyH.cons (o := { dst := some 16, op := Go.Op.call { callee := Go.Callee.value (Go.Operand.func 33), args := #[Go.Operand.tmp 13, Go.Operand.tmp 15], argTypes := #[44, 9] }, type := 49, pos := "l13_journal.go:140", after := #[{ on := 0, ground := Go.Ground.data }, { on := 2, ground := Go.Ground.data }, { on := 2, ground := Go.Ground.chain }], guard := none }) rfl (fun K hK => ?_) AllReadyH.nil)
        go_simp
        have HAP := hid (specAppend _ s l x _ _ _ (by omega) (by omega) (by omega) (Nat.le_refl _) J2.jo.o1.at J2.jo.o2.at)
        have hlen := ap_len s l x
        unfold APPost JPost at HAP
        generalize okN (aC s l x) (countN s (l ++ packL x)) = kn at HAP
        generalize okL (aC s l x) s = s5 at HAP hlen
        generalize okL (aC s l x) (l ++ packL x) = l5 at HAP hlen
        generalize aC s l x = kc at HAP
        go_at_call 33
        refine HAP.out.mono ?_
        rintro z w3 ⟨x1, j1, x2, j2, rfl, hj3, hb3⟩
        have J3 := J2.below hb3
        have lz := J2.sz
        have lb3 := hb3.size
        go_wp2_with fail
        refine hK.out _ _ J3.b (fun hHeld => ?_)
        clear hK K
        try simp only [Act.put, List.setIfInBounds_toArray, List.set_cons_zero, List.set_cons_succ]
        have hblk := (hb3.block _ ldk).trans hdk
        have t0 := blk_cell hblk (o := 0) (v := .int .i64 0) rfl
        have t1 := blk_cell hblk (o := 1) (v := .int .i64 0) rfl
        have t2 := blk_cell hblk (o := 2) (v := .slice none 0 0) rfl
        have t3 := blk_cell hblk (o := 3) (v := .slice none 0 0) rfl
        have tf0 := blk_free (o := 0) hblk
        have tf1 := blk_free (o := 1) hblk
        have tf2 := blk_free (o := 2) hblk
        have tf3 := blk_free (o := 3) hblk
        refine wpAnyH_ready (rs := [5]) (by kernel_rfl) (by simp) ?_
        refine (AllReadyH.cons (o := { dst := none, op := Go.Op.store 49 (Go.Operand.tmp 5) (Go.Operand.tmp 16), type := 0, pos := "l13_journal.go:140", after := #[{ on := 4, ground := Go.Ground.data }, { on := 3, ground := Go.Ground.data }, { on := 3, ground := Go.Ground.chain }, { on := 0, ground := Go.Ground.phase }, { on := 1, ground := Go.Ground.phase }, { on := 2, ground := Go.Ground.phase }, { on := 3, ground := Go.Ground.phase }, { on := 4, ground := Go.Ground.phase }], guard := none }) rfl (fun K hK => ?_) AllReadyH.nil)
        go_simp
        refine hK.out _ _ (J3.set4 (b := wr.heap.size) (by omega) (fun y e => by have := (J0.out.jo.o1.lt y e).2; omega) (fun y e => by have := (J0.out.jo.o2.lt y e).2; omega)).b (fun hHeld => ?_)
        clear hK K
        try simp only [Act.put, List.setIfInBounds_toArray, List.set_cons_zero, List.set_cons_succ]
        refine wpAnyH_done (by kernel_rfl) ?_ _
        obtain ⟨wz, hwz⟩ : ∃ wz, wz = ((((w3.setCell ⟨wr.heap.size, 0, none⟩ (.int .i64 kc)).setCell ⟨wr.heap.size, 1, none⟩ (.int .i64 (kn : Int))).setCell ⟨wr.heap.size, 2, none⟩ (.slice x1 s5.length j1)).setCell ⟨wr.heap.size, 3, none⟩ (.slice x2 l5.length j2)) := ⟨_, rfl⟩
        obtain ⟨g5, hg5⟩ : ∃ g5, g5 = wr.heap.size := ⟨_, rfl⟩
        have JZ : Hid (JV w wz S a len cap (p + 1) (.slice a1 s.length k1) (.slice a2 l.length k2) s l) := hid (by rw [hwz]; exact (J3.set4 (b := wr.heap.size) (by omega) (fun y e => by have := (J0.out.jo.o1.lt y e).2; omega) (fun y e => by have := (J0.out.jo.o2.lt y e).2; omega)))
        have HBZ : Hid (wz.heap[g5]? = some (.cells #[.int .i64 kc, .int .i64 (kn : Int), .slice x1 s5.length j1, .slice x2 l5.length j2] 49 (0, 0))) := hid (by rw [hwz, hg5]; exact set4 hblk _ _ _ _)
        have HOZ : Hid (Jo wz (w.heap.size + 2) (.slice x1 s5.length j1) (.slice x2 l5.length j2) s5 l5) := hid (by rw [hwz]; exact (jo4 hj3 (by omega)).mono (by omega))
        rw [← hwz, ← hg5]
        clear hwz hg5 hHeld hblk hj3 hb3 t0 t1 t2 t3 tf0 tf1 tf2 tf3 J0d J1 J2 J3 hdk
        have z0 := blk_cell HBZ.out (o := 0) (v := .int .i64 kc) rfl
        have z2 := blk_cell HBZ.out (o := 2) (v := .slice x1 s5.length j1) rfl
        have z3 := blk_cell HBZ.out (o := 3) (v := .slice x2 l5.length j2) rfl
        have HLEN := hid hlen
        clear hlen
        by_cases hc0 : kc = 0
        · have b1 : (kc == 0) = true := beq_iff_eq.2 hc0
          have JY := hid (JZ.out.setj (u1 := .slice x1 s5.length j1) (u2 := .slice x2 l5.length j2) rfl rfl HOZ.out HLEN.out)
          have c0 := blk_cell JZ.out.b (o := 0) (v := .slice a1 s.length k1) rfl
          have c1 := blk_cell JZ.out.b (o := 1) (v := .slice a2 l.length k2) rfl
          have f0 := blk_free (o := 0) JZ.out.b
          have f1 := blk_free (o := 1) JZ.out.b
          clear hc0
          go_wp2_with fail
          refine (Drw.chance B S len cap (p + 1) 3 a _ JY.out.src (hcode.out _ JY.out.st) hBS hln (by omega) (by omega) (by omega)).mono ?_
          rintro e w5 ⟨t, rfl, hs5, hgg5⟩
          have J5 := hid (JY.out.turn (by omega) hgg5 hs5)
          clear hs5 hgg5
          cases t
          · go_wp2
            exact ⟨⟨kk - 1, p + 2, s5, l5, x1, j1, x2, j2, by simp; omega, by omega, by omega, J5⟩, by simp [intOf]; omega⟩
          · have d0 := blk_cell J5.out.b (o := 0) (v := .slice x1 s5.length j1) rfl
            have d1 := blk_cell J5.out.b (o := 1) (v := .slice x2 l5.length j2) rfl
            have HSY := hid (specSync _ s5 l5 _ _ w5 (by have := J5.out.len; omega) (by have := J5.out.len; omega) (Nat.le_refl _) J5.out.jo.o1.at J5.out.jo.o2.at)
            have hln2 := sy_len s5 l5
            unfold SYPost JPost at HSY
            generalize okN (jF s5 l5) (countN (s5 ++ l5) []) = kn2 at HSY
            generalize okL (jF s5 l5) (s5 ++ l5) = s6 at HSY hln2
            generalize okL (jF s5 l5) [] = l6 at HSY hln2
            generalize jF s5 l5 = kc2 at HSY
            have HLN2 := hid hln2
            clear hln2
            go_wp2_with fail
            refine HSY.out.mono ?_
            rintro e w6 ⟨y1, m1, y2, m2, rfl, hj6, hb6⟩
            have hfd : ∀ w' : World, Sem.run Try.prog (Instr.field 49 (.agg #[.int .i64 kc2, .int .i64 (kn2 : Int), .slice y1 s6.length m1, .slice y2 l6.length m2]) 2) w' = .ok (.agg #[.slice y1 s6.length m1, .slice y2 l6.length m2]) w' := fun w' => by kernel_rfl
            have J6 := hid (J5.out.below hb6)
            have hl5 := J5.out.lt2
            have J7 := hid (J6.out.setj (u1 := .slice y1 s6.length m1) (u2 := .slice y2 l6.length m2) rfl rfl (hj6.mono (by omega)) HLN2.out)
            have e0 := blk_cell J6.out.b (o := 0) (v := .slice x1 s5.length j1) rfl
            have e1 := blk_cell J6.out.b (o := 1) (v := .slice x2 l5.length j2) rfl
            have f0 := blk_free (o := 0) J6.out.b
            have f1 := blk_free (o := 1) J6.out.b
            clear hb6 hj6 d0 d1
            go_wp2
            exact ⟨⟨kk - 1, p + 2, s6, l6, y1, m1, y2, m2, by simp; omega, by omega, by omega, J7⟩, by simp [intOf]; omega⟩
        · have b1 : (kc == 0) = false := beq_eq_false_iff_ne.2 hc0
          clear hc0
          go_wp2_with fail
          refine (Drw.chance B S len cap (p + 1) 3 a _ JZ.out.src (hcode.out _ JZ.out.st) hBS hln (by omega) (by omega) (by omega)).mono ?_
          rintro e w5 ⟨t, rfl, hs5, hgg5⟩
          have J5 := hid (JZ.out.turn (by omega) hgg5 hs5)
          clear hs5 hgg5
          cases t
          · go_wp2
            exact ⟨⟨kk - 1, p + 2, s, l, a1, k1, a2, k2, by simp; omega, by omega, by omega, J5⟩, by simp [intOf]; omega⟩
          · have d0 := blk_cell J5.out.b (o := 0) (v := .slice a1 s.length k1) rfl
            have d1 := blk_cell J5.out.b (o := 1) (v := .slice a2 l.length k2) rfl
            have HSY := hid (specSync _ s l _ _ w5 (by have := J5.out.len; omega) (by have := J5.out.len; omega) (Nat.le_refl _) J5.out.jo.o1.at J5.out.jo.o2.at)
            have hln2 := sy_len s l
            unfold SYPost JPost at HSY
            generalize okN (jF s l) (countN (s ++ l) []) = kn2 at HSY
            generalize okL (jF s l) (s ++ l) = s6 at HSY hln2
            generalize okL (jF s l) [] = l6 at HSY hln2
            generalize jF s l = kc2 at HSY
            have HLN2 := hid hln2
            clear hln2
            go_wp2_with fail
            refine HSY.out.mono ?_
            rintro e w6 ⟨y1, m1, y2, m2, rfl, hj6, hb6⟩
            have hfd : ∀ w' : World, Sem.run Try.prog (Instr.field 49 (.agg #[.int .i64 kc2, .int .i64 (kn2 : Int), .slice y1 s6.length m1, .slice y2 l6.length m2]) 2) w' = .ok (.agg #[.slice y1 s6.length m1, .slice y2 l6.length m2]) w' := fun w' => by kernel_rfl
            have J6 := hid (J5.out.below hb6)
            have hl5 := J5.out.lt2
            have J7 := hid (J6.out.setj (u1 := .slice y1 s6.length m1) (u2 := .slice y2 l6.length m2) rfl rfl (hj6.mono (by omega)) HLN2.out)
            have e0 := blk_cell J6.out.b (o := 0) (v := .slice a1 s.length k1) rfl
            have e1 := blk_cell J6.out.b (o := 1) (v := .slice a2 l.length k2) rfl
            have f0 := blk_free (o := 0) J6.out.b
            have f1 := blk_free (o := 1) J6.out.b
            clear hb6 hj6 d0 d1
            go_wp2
            exact ⟨⟨kk - 1, p + 2, s6, l6, y1, m1, y2, m2, by simp; omega, by omega, by omega, J7⟩, by simp [intOf]; omega⟩
    · have hk00 : kk = 0 := by omega
      have q1 : ¬ (0 : Int) < (kk : Int) := by omega
      have hpp : p + 1 ≤ pos + 14 := by omega
      clear hk00
      go_wp2_with fail
      refine (Drw.next B S len cap p 18 a _ J0.out.src (hcode.out _ J0.out.st) hBS hln (by omega) (by omega) (by omega)).mono ?_
      rintro e w2 ⟨r, hr, rfl, hs2, hg2⟩
      have J2 := hid (J0.out.turn hSl hg2 hs2)
      have l2 := J2.out.lt2
      have hln0 := J2.out.len
      clear hs2 hg2 J0
      have c0 := blk_cell J2.out.b (o := 0) (v := .slice a1 s.length k1) rfl
      have c1 := blk_cell J2.out.b (o := 1) (v := .slice a2 l.length k2) rfl
      by_cases r0 : r = 0
      · have b0 : ((r : Int) == 0) = true := beq_iff_eq.2 (by omega)
        clear r0
        have HA := hid (at_one w2 9).at
        have JA := hid (J2.out.below ((Below.refl w2.heap.size w2).alloc (Nat.le_refl _) (.cells #[vb 9] 5)))
        have lA := hid JA.out.lt2
        change Hid (At (w2.alloc (.cells #[.int .u8 9] 5)) _ _ _) at HA
        change Hid (JV w (w2.alloc (.cells #[.int .u8 9] 5)) _ _ _ _ _ _ _ _ _) at JA
        change Hid (w.heap.size + 2 ≤ (w2.alloc (.cells #[.int .u8 9] 5)).heap.size) at lA
        go_wp2_with (at_builtin; refine wpL _ rfl _ _ rfl (w.heap.size + 2) _ l rfl JA.out.jo.o2 _ [9] _ rfl HA.out (by simp; omega) lA.out ?_; intro n3 a3 c3 w3 hG; have JR3 := hid (JA.out.r.grow hG.grown (fun b e => (JA.out.jo.o2.lt b e).1)); have HE3 := hid hG.eq; have HJ3 := hid (jo_grow2 JA.out.jo hG); have hb3 := (hG.grown.block _ JA.out.lt (fun e => by have := (JA.out.jo.o2.lt _ e.symm).1; omega)).trans JA.out.b; have d0 := blk_cell hb3 (o := 0) (v := .slice a1 s.length k1) rfl; have d1 := blk_cell hb3 (o := 1) (v := .slice a2 l.length k2) rfl; have e1 := blk_free (o := 1) hb3; have z0 := blk_cell JR3.out.res (o := 0) (v := .slice none 0 0) rfl; have z1 := blk_cell JR3.out.res (o := 1) (v := .slice none 0 0) rfl; have y0 := blk_free (o := 0) JR3.out.res; have y1 := blk_free (o := 1) JR3.out.res; clear hG hb3)
        have hl3 : n3.length ≤ 2401 := by rw [HE3.out, List.length_append, List.length_singleton]; omega
        have HD := (JR3.out.set 1 (.slice a3 n3.length c3)).done (pos := pos) (HJ3.out.set (c := 1) (u := .slice a3 n3.length c3) (b := w.heap.size + 1) (by omega)) (by omega) (by omega) (by omega)
        refine bodyPost_ret (results_cell_row Try.results74 _ _ w.heap.size 44 #[.slice a1 s.length k1, .slice a3 n3.length c3] (0, 0) _ rfl HD.1 Try.underlying44 rfl info2) rfl ?_
        rw [hRR.out]
        exact HD.2
      by_cases r1 : r = 1
      · have b0 : ((r : Int) == 0) = false := beq_eq_false_iff_ne.2 (by omega)
        have b1 : ((r : Int) == 1) = true := beq_iff_eq.2 (by omega)
        clear r0 r1
        have HA := hid (at_one w2 1).at
        have JA := hid (J2.out.below ((Below.refl w2.heap.size w2).alloc (Nat.le_refl _) (.cells #[vb 1] 5)))
        have lA := hid JA.out.lt2
        change Hid (At (w2.alloc (.cells #[.int .u8 1] 5)) _ _ _) at HA
        change Hid (JV w (w2.alloc (.cells #[.int .u8 1] 5)) _ _ _ _ _ _ _ _ _) at JA
        change Hid (w.heap.size + 2 ≤ (w2.alloc (.cells #[.int .u8 1] 5)).heap.size) at lA
        go_wp2_with (at_builtin; refine wpL _ rfl _ _ rfl (w.heap.size + 2) _ s rfl JA.out.jo.o1 _ [1] _ rfl HA.out (by simp; omega) lA.out ?_; intro n3 a3 c3 w3 hG; have JR3 := hid (JA.out.r.grow hG.grown (fun b e => (JA.out.jo.o1.lt b e).1)); have HE3 := hid hG.eq; have HJ3 := hid (jo_grow1 JA.out.jo hG); have hb3 := (hG.grown.block _ JA.out.lt (fun e => by have := (JA.out.jo.o1.lt _ e.symm).1; omega)).trans JA.out.b; have d0 := blk_cell hb3 (o := 0) (v := .slice a1 s.length k1) rfl; have d1 := blk_cell hb3 (o := 1) (v := .slice a2 l.length k2) rfl; have e1 := blk_free (o := 0) hb3; have z0 := blk_cell JR3.out.res (o := 0) (v := .slice none 0 0) rfl; have z1 := blk_cell JR3.out.res (o := 1) (v := .slice none 0 0) rfl; have y0 := blk_free (o := 0) JR3.out.res; have y1 := blk_free (o := 1) JR3.out.res; clear hG hb3)
        have hl3 : n3.length ≤ 2401 := by rw [HE3.out, List.length_append, List.length_singleton]; omega
        have HD := (JR3.out.set 0 (.slice a3 n3.length c3)).done (pos := pos) (HJ3.out.set (c := 0) (u := .slice a3 n3.length c3) (b := w.heap.size + 1) (by omega)) (by omega) (by omega) (by omega)
        refine bodyPost_ret (results_cell_row Try.results74 _ _ w.heap.size 44 #[.slice a3 n3.length c3, .slice a2 l.length k2] (0, 0) _ rfl HD.1 Try.underlying44 rfl info2) rfl ?_
        rw [hRR.out]
        exact HD.2
      by_cases r2 : r = 2
      · have b0 : ((r : Int) == 0) = false := beq_eq_false_iff_ne.2 (by omega)
        have b1 : ((r : Int) == 1) = false := beq_eq_false_iff_ne.2 (by omega)
        have b2 : ((r : Int) == 2) = true := beq_iff_eq.2 (by omega)
        clear r0 r1 r2
        have hmk := make_row (P := Try.prog) Try.underlying24 info8 2401 (by omega) (by omega)
        have HZ := hid (zeros_ob w2 2401 (by omega))
        obtain ⟨zz, hzz⟩ : ∃ zz, Hid (zz = List.replicate 2401 (0 : UInt8)) := ⟨_, hid rfl⟩
        have hzl : Hid (zz.length = 2401) := hid (by rw [hzz.out, List.length_replicate])
        rw [← hzz.out] at HZ
        generalize madeCells (Value.int .u8 0).cells (2401 * 1) = CC at *
        have hmk2 : ∀ w', Sem.run Try.prog (Instr.makeSlice 24 (.int .i64 2401) (.int .i64 2401)) w' = .ok (.slice (some ⟨w'.heap.size, 0, none⟩) 2401 2401) (w'.alloc (.cells CC 5)) := hmk
        have JA := hid (J2.out.below ((Below.refl w2.heap.size w2).alloc (Nat.le_refl _) (.cells CC 5)))
        have HJA : Hid (Jo (w2.alloc (.cells CC 5)) (w.heap.size + 2) (.slice a1 s.length k1) (.slice (some ⟨w2.heap.size, 0, none⟩) zz.length 2401) s zz) := hid (by
          rw [hzl.out]
          exact ⟨JA.out.jo.o1, ob_mono HZ.out (by omega), fun b e f => by have := (J2.out.jo.o1.lt b e).2; have h9 : w2.heap.size = b := Option.some.inj f; omega⟩)
        have d0 := blk_cell JA.out.b (o := 0) (v := .slice a1 s.length k1) rfl
        have d1 := blk_cell JA.out.b (o := 1) (v := .slice a2 l.length k2) rfl
        have e1 := blk_free (o := 1) JA.out.b
        have z0 := blk_cell JA.out.res (o := 0) (v := .slice none 0 0) rfl
        have z1 := blk_cell JA.out.res (o := 1) (v := .slice none 0 0) rfl
        have y0 := blk_free (o := 0) JA.out.res
        have y1 := blk_free (o := 1) JA.out.res
        have HD := (JA.out.r.set 1 (.slice (some ⟨w2.heap.size, 0, none⟩) zz.length 2401)).done (pos := pos) (HJA.out.set (c := 1) (u := .slice (some ⟨w2.heap.size, 0, none⟩) zz.length 2401) (b := w.heap.size + 1) (by omega)) (by omega) (by rw [hzl.out]; omega) (by omega)
        rw [hzl.out] at HD
        clear hmk c0 c1
        go_wp2
        refine bodyPost_ret (results_cell_row Try.results74 _ _ w.heap.size 44 #[.slice a1 s.length k1, .slice (some ⟨w2.heap.size, 0, none⟩) 2401 2401] (0, 0) _ rfl HD.1 Try.underlying44 rfl info2) rfl ?_
        rw [hRR.out]
        exact HD.2
      · have b0 : ((r : Int) == 0) = false := beq_eq_false_iff_ne.2 (by omega)
        have b1 : ((r : Int) == 1) = false := beq_eq_false_iff_ne.2 (by omega)
        have b2 : ((r : Int) == 2) = false := beq_eq_false_iff_ne.2 (by omega)
        clear r0 r1 r2
        have z0 := blk_cell J2.out.res (o := 0) (v := .slice none 0 0) rfl
        have z1 := blk_cell J2.out.res (o := 1) (v := .slice none 0 0) rfl
        have y0 := blk_free (o := 0) J2.out.res
        have y1 := blk_free (o := 1) J2.out.res
        have HD := J2.out.r.done (pos := pos) J2.out.jo (by omega) (by omega) (by omega)
        go_wp2
        refine bodyPost_ret (results_cell_row Try.results74 _ _ w.heap.size 44 #[.slice a1 s.length k1, .slice a2 l.length k2] (0, 0) _ rfl HD.1 Try.underlying44 rfl info2) rfl ?_
        rw [hRR.out]
        exact HD.2
end Jn
end Go.Proofs.Ytiliahibnhfhoaa
