/- Amid two appends: the bytes gathered, and a variable that is laid at any time. No condition. -/
import Derived.Test.YtiliahibnhfhoaaJtA
import Derived.Test.YtiliahibnhfhoaaJnV
namespace Go.Proofs.Ytiliahibnhfhoaa
open Go.RowKit
set_option linter.unusedVariables false
namespace Jn
structure AM (w4 wx : World) (v : Value) (p : List UInt8) : Prop where
  hb : Below w4.heap.size w4 wx
  o : Ob wx w4.heap.size v p
structure AG (w4 wx : World) (v : Value) (p : List UInt8) (g : Nat) : Prop where
  hb : Below w4.heap.size w4 wx
  o : Ob wx w4.heap.size v p
  blk : wx.heap[g]? = some (.cells #[.int .i64 0, .bool false, .slice none 0 0] 32 (0, 0))
  ge : w4.heap.size ≤ g
  ne : ∀ b, v.ownBlock = some b → b ≠ g
theorem AM.made {w4 wx wn : World} (h : AM w4 wx (.slice none 0 0) []) (e : wn = wx.alloc (.cells #[] 5)) : AM w4 wn (.slice (some ⟨wx.heap.size, 0, none⟩) 0 0) [] := by
  subst e
  exact ⟨h.hb.alloc h.hb.size _, ob_mono (ob_made wx) h.hb.size⟩
theorem AG.made {w4 wx wn : World} {g : Nat} (h : AG w4 wx (.slice none 0 0) [] g) (e : wn = wx.alloc (.cells #[] 5)) : AG w4 wn (.slice (some ⟨wx.heap.size, 0, none⟩) 0 0) [] g := by
  subst e
  have hlt := blk_lt h.blk
  exact ⟨h.hb.alloc h.hb.size _, ob_mono (ob_made wx) h.hb.size, (Below.heap_alloc _ _ _ hlt).trans h.blk, h.ge, fun b e => by have e2 : wx.heap.size = b := Option.some.inj e; omega⟩
theorem AM.var {w4 wx wn : World} {v : Value} {p : List UInt8} (h : AM w4 wx v p) (e : wn = wx.alloc (.cells #[.int .i64 0, .bool false, .slice none 0 0] 32)) : AG w4 wn v p wx.heap.size := by
  subst e
  have hb : Below wx.heap.size wx (wx.alloc (.cells #[.int .i64 0, .bool false, .slice none 0 0] 32)) := (Below.refl wx.heap.size wx).alloc (Nat.le_refl _) _
  exact ⟨h.hb.alloc h.hb.size _, h.o.below hb (Nat.le_refl _), heap_alloc_new wx _, h.hb.size, fun b e => by have := (h.o.lt b e).2; omega⟩
theorem AM.grow {w4 wx w' : World} {v v' : Value} {p l2 l : List UInt8} (h : AM w4 wx v p) (hG : Grown wx w4.heap.size v p l2 v' l w') : AM w4 w' v' l := ⟨h.hb.trans (hG.low h.o h.hb.size), hG.own⟩
theorem AG.grow {w4 wx w' : World} {v v' : Value} {p l2 l : List UInt8} {g : Nat} (h : AG w4 wx v p g) (hG : Grown wx w4.heap.size v p l2 v' l w') : AG w4 w' v' l g := by
  have hlt := blk_lt h.blk
  refine ⟨h.hb.trans (hG.low h.o h.hb.size), hG.own, (hG.grown.block g hlt (fun e => h.ne g e.symm rfl)).trans h.blk, h.ge, fun b e => ?_⟩
  rcases hG.blk with h1 | h1
  · rw [h1] at e; exact h.ne b e
  · rw [h1] at e; cases e; omega
theorem AG.below {w4 wx w' : World} {v : Value} {p : List UInt8} {g : Nat} (h : AG w4 wx v p g) (hb : Below wx.heap.size wx w') : AG w4 w' v p g :=
  ⟨h.hb.trans (hb.mono h.hb.size), h.o.below hb (Nat.le_refl _), (hb.block g (blk_lt h.blk)).trans h.blk, h.ge, h.ne⟩
theorem AM.below {w4 wx w' : World} {v : Value} {p : List UInt8} (h : AM w4 wx v p) (hb : Below wx.heap.size wx w') : AM w4 w' v p := ⟨h.hb.trans (hb.mono h.hb.size), h.o.below hb (Nat.le_refl _)⟩
theorem os_off {w : World} {B g c : Nat} {v u : Value} {l : List (List UInt8)} (h : Os w B v l) (hn : ∀ b, v.ownBlock = some b → b ≠ g) : Os (w.setCell ⟨g, c, none⟩ u) B v l := by
  obtain ⟨h1, h2⟩ := h
  refine ⟨h1, ?_⟩
  rcases h2 with h2 | ⟨x, cap, cur, a1, a2, a3, a4⟩
  · exact .inl h2
  · refine .inr ⟨x, cap, cur, a1, a2, ?_, a4⟩
    rw [Below.heap_setCell _ _ _ _ (hn x (by rw [a1]; rfl))]
    exact a3
/-- The variable filled. -/
theorem AG.close {w w4 wx : World} {bs : List (Nat × Array Value × TypeId)} {P : World → Prop} {v : Value} {p : List UInt8} {g B : Nat} {a7 : Option Addr} {c7 : Nat} {ls : List (List UInt8)} (h : AG w4 wx v p g) (I : Inw w w4 bs P)
    (ho : Os wx B (.slice a7 ls.length c7) ls) (hne : ∀ b, (Value.slice a7 ls.length c7).ownBlock = some b → b ≠ g) (c : Int) (b : Bool) :
    Inw w (((wx.setCell ⟨g, 0, none⟩ (.int .i64 c)).setCell ⟨g, 1, none⟩ (.bool b)).setCell ⟨g, 2, none⟩ (.slice a7 ls.length c7)) ((g, #[.int .i64 c, .bool b, .slice a7 ls.length c7], 32) :: bs) (fun x => P x ∧ Os x 0 (.slice a7 ls.length c7) ls)
    ∧ Below w4.heap.size w4 (((wx.setCell ⟨g, 0, none⟩ (.int .i64 c)).setCell ⟨g, 1, none⟩ (.bool b)).setCell ⟨g, 2, none⟩ (.slice a7 ls.length c7)) := by
  have hb := setB (setB (setB h.hb h.ge (.int .i64 c) (o := 0)) h.ge (.bool b) (o := 1)) h.ge (.slice a7 ls.length c7) (o := 2)
  have h1 := blk_set h.blk 0 (.int .i64 c) rfl (by simp)
  have h2 := blk_set h1 1 (.bool b) rfl (by simp)
  have h3 := blk_set h2 2 (.slice a7 ls.length c7) rfl (by simp)
  have I2 := I.below hb
  refine ⟨⟨I2.st, fun q hq => ?_, ⟨I2.p, os_mono (os_off (os_off (os_off ho hne) hne) hne) (Nat.zero_le _)⟩, fun x y hx hxy => ⟨I.kp x y hx.1 hxy, hx.2.below hxy (Nat.le_refl _)⟩⟩, hb⟩
  rcases List.mem_cons.1 hq with rfl | hq
  · simpa using h3
  · exact I2.b q hq
theorem fldJ (c n : Int) (u1 u2 : Value) (w : World) : Sem.run Try.prog (Instr.field 49 (.agg #[.int .i64 c, .int .i64 n, u1, u2]) 0) w = .ok (.int .i64 c) w := by kernel_rfl
end Jn
end Go.Proofs.Ytiliahibnhfhoaa
