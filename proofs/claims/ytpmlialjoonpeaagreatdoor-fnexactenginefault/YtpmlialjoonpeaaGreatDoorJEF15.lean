/- Laid together: ImS, ImT. -/
import Derived.Test.YtpmlialjoonpeaaGreatDoorJEF14
/- What the program's assertions of terms answer. -/
namespace Go.Proofs.YtpmlialjoonpeaaGreatDoor
open Go.RowKit
set_option linter.unusedVariables false
namespace Ex
open Nd (NodeD)
theorem asCC (v : Value) (w : World) : (Instr.typeAssert (.iface 234 v) 209 234 true).run Tryz.prog w = .ok (.tuple #[v, .bool true]) w := by kernel_rfl
theorem asCV (v : Value) (w : World) : (Instr.typeAssert (.iface 234 v) 209 235 true).run Tryz.prog w = .ok (.tuple #[.int .i64 0, .bool false]) w := by kernel_rfl
theorem asCN (v : Value) (w : World) : (Instr.typeAssert (.iface 234 v) 209 238 true).run Tryz.prog w = .ok (.tuple #[.agg #[.nilIface], .bool false]) w := by kernel_rfl
theorem asCP (v : Value) (w : World) : (Instr.typeAssert (.iface 234 v) 209 240 true).run Tryz.prog w = .ok (.tuple #[.agg #[.int .i64 0, .nilIface, .nilIface], .bool false]) w := by kernel_rfl
theorem asVC (v : Value) (w : World) : (Instr.typeAssert (.iface 235 v) 209 234 true).run Tryz.prog w = .ok (.tuple #[.int .i64 0, .bool false]) w := by kernel_rfl
theorem asVV (v : Value) (w : World) : (Instr.typeAssert (.iface 235 v) 209 235 true).run Tryz.prog w = .ok (.tuple #[v, .bool true]) w := by kernel_rfl
theorem asVN (v : Value) (w : World) : (Instr.typeAssert (.iface 235 v) 209 238 true).run Tryz.prog w = .ok (.tuple #[.agg #[.nilIface], .bool false]) w := by kernel_rfl
theorem asVP (v : Value) (w : World) : (Instr.typeAssert (.iface 235 v) 209 240 true).run Tryz.prog w = .ok (.tuple #[.agg #[.int .i64 0, .nilIface, .nilIface], .bool false]) w := by kernel_rfl
theorem asNC (v : Value) (w : World) : (Instr.typeAssert (.iface 238 v) 209 234 true).run Tryz.prog w = .ok (.tuple #[.int .i64 0, .bool false]) w := by kernel_rfl
theorem asNV (v : Value) (w : World) : (Instr.typeAssert (.iface 238 v) 209 235 true).run Tryz.prog w = .ok (.tuple #[.int .i64 0, .bool false]) w := by kernel_rfl
theorem asNN (v : Value) (w : World) : (Instr.typeAssert (.iface 238 v) 209 238 true).run Tryz.prog w = .ok (.tuple #[v, .bool true]) w := by kernel_rfl
theorem asNP (v : Value) (w : World) : (Instr.typeAssert (.iface 238 v) 209 240 true).run Tryz.prog w = .ok (.tuple #[.agg #[.int .i64 0, .nilIface, .nilIface], .bool false]) w := by kernel_rfl
theorem asPC (v : Value) (w : World) : (Instr.typeAssert (.iface 240 v) 209 234 true).run Tryz.prog w = .ok (.tuple #[.int .i64 0, .bool false]) w := by kernel_rfl
theorem asPV (v : Value) (w : World) : (Instr.typeAssert (.iface 240 v) 209 235 true).run Tryz.prog w = .ok (.tuple #[.int .i64 0, .bool false]) w := by kernel_rfl
theorem asPN (v : Value) (w : World) : (Instr.typeAssert (.iface 240 v) 209 238 true).run Tryz.prog w = .ok (.tuple #[.agg #[.nilIface], .bool false]) w := by kernel_rfl
theorem asPP (v : Value) (w : World) : (Instr.typeAssert (.iface 240 v) 209 240 true).run Tryz.prog w = .ok (.tuple #[v, .bool true]) w := by kernel_rfl
end Ex
end Go.Proofs.YtpmlialjoonpeaaGreatDoor
/- The program's types of terms: termType, hasType, pairTypes, TypeOf. -/
namespace Go.Proofs.YtpmlialjoonpeaaGreatDoor
open Go.RowKit
set_option linter.unusedVariables false
namespace Ex
open Nd (NodeD)
set_option maxRecDepth 100000 in
set_option maxHeartbeats 1000000 in
theorem implPairTypes (k : Int) (w : World) (h1 : 3 ≤ k) (h2 : k ≤ 9) : Calls Tryz.prog 203 #[.int .i64 k] w fun e w' => e = .returned (.tuple #[.int .i64 (pairAsk k), .int .i64 (pairOwn k)]) ∧ w' = w := by
  have hkk : k = 3 ∨ k = 4 ∨ k = 5 ∨ k = 6 ∨ k = 7 ∨ k = 8 ∨ k = 9 := by omega
  clear h1 h2
  rcases hkk with rfl | rfl | rfl | rfl | rfl | rfl | rfl
  · go_enter Tryz.func203, Tryz.ntmps203
    go_wp2
    go_ret2
    exact ⟨rfl, rfl⟩
  · go_enter Tryz.func203, Tryz.ntmps203
    go_wp2
    go_ret2
    exact ⟨rfl, rfl⟩
  · go_enter Tryz.func203, Tryz.ntmps203
    go_wp2
    go_ret2
    exact ⟨rfl, rfl⟩
  · go_enter Tryz.func203, Tryz.ntmps203
    go_wp2
    go_ret2
    exact ⟨rfl, rfl⟩
  · go_enter Tryz.func203, Tryz.ntmps203
    go_wp2
    go_ret2
    exact ⟨rfl, rfl⟩
  · go_enter Tryz.func203, Tryz.ntmps203
    go_wp2
    go_ret2
    exact ⟨rfl, rfl⟩
  · go_enter Tryz.func203, Tryz.ntmps203
    go_wp2
    go_ret2
    exact ⟨rfl, rfl⟩
def tyIs (t : Tm) (a : Int) : Bool := t.fit && (t.ty == a)
set_option maxRecDepth 100000 in
set_option maxHeartbeats 1000000 in
theorem implHasType (t : Tm) (a : Int) (w : World) (H : Calls Tryz.prog 198 #[t.val] w fun e w' => e = .returned (.tuple #[.int .i64 t.ty, .bool t.fit]) ∧ Below w.heap.size w w') :
    Calls Tryz.prog 202 #[t.val, .int .i64 a] w fun e w' => e = .returned (.bool (tyIs t a)) ∧ Below w.heap.size w w' := by
  have HT := hid H
  have HD : Hid (tyIs t a = (t.fit && (t.ty == a))) := hid rfl
  obtain ⟨ty1, v1, hv1⟩ := t.val_if
  rw [hv1] at HT ⊢
  clear H hv1
  generalize t.ty = y at *
  go_enter Tryz.func202, Tryz.ntmps202
  go_wp2_with fail
  refine HT.out.mono ?_
  rintro e w1 ⟨rfl, hb1⟩
  cases hf : t.fit
  · rw [hf] at HD
    go_wp2
    go_ret
    exact ⟨by rw [HD.out]; rfl, hb1⟩
  · rw [hf] at HD
    cases he : (y == a)
    · rw [he] at HD
      go_wp2
      go_ret
      exact ⟨by rw [HD.out]; rfl, hb1⟩
    · rw [he] at HD
      go_wp2
      go_ret
      exact ⟨by rw [HD.out]; rfl, hb1⟩
set_option maxRecDepth 100000 in
set_option maxHeartbeats 4000000 in
theorem implTermType : ∀ (t : Tm) (w : World), t.ok → Calls Tryz.prog 198 #[t.val] w fun e w' => e = .returned (.tuple #[.int .i64 t.ty, .bool t.fit]) ∧ Below w.heap.size w w'
  | ⟨[], false, n⟩, w, hok => by
    have a1 := asCC
    have a2 := asCV
    change Calls Tryz.prog 198 #[.iface 234 (.int .i64 n)] w fun e w' => e = .returned (.tuple #[.int .i64 1, .bool true]) ∧ Below w.heap.size w w'
    go_enter Tryz.func198, Tryz.ntmps198
    go_wp2
    go_ret2
    exact ⟨rfl, Below.refl _ _⟩
  | ⟨[], true, n⟩, w, hok => by
    have a1 := asVC
    have a2 := asVV
    change Calls Tryz.prog 198 #[.iface 235 (.int .i64 n)] w fun e w' => e = .returned (.tuple #[.int .i64 1, .bool true]) ∧ Below w.heap.size w w'
    go_enter Tryz.func198, Tryz.ntmps198
    go_wp2
    go_ret2
    exact ⟨rfl, Below.refl _ _⟩
  | ⟨[t], _, _⟩, w, hok => by
    obtain ⟨hok, rfl, rfl⟩ := hok
    have a1 := asNC
    have a2 := asNV
    have a3 := asNN
    have IH := hid (fun w => implHasType t 2 w (implTermType t w hok))
    change Calls Tryz.prog 198 #[.iface 238 (.agg #[t.val])] w fun e w' => e = .returned (.tuple #[.int .i64 2, .bool (tyIs t 2)]) ∧ Below w.heap.size w w'
    have HB : Hid (Below w.heap.size w (w.alloc (.cells #[t.val] 238))) := hid ((Below.refl _ w).alloc (Nat.le_refl _) _)
    obtain ⟨ty1, v1, hv1⟩ := t.val_if
    rw [hv1] at IH HB ⊢
    clear hv1 hok
    generalize tyIs t 2 = ti at *
    go_enter Tryz.func198, Tryz.ntmps198
    go_wp2_with fail
    refine (IH.out _).mono ?_
    rintro e w1 ⟨rfl, hb1⟩
    go_wp2
    go_ret2
    exact ⟨rfl, HB.out.trans (hb1.mono HB.out.size)⟩
  | ⟨l :: r :: _, _, k⟩, w, hok => by
    obtain ⟨hok, rfl, rfl⟩ := hok
    have a1 := asPC
    have a2 := asPV
    have a3 := asPN
    have a4 := asPP
    have IHL := hid (fun a w => implHasType l a w (implTermType l w hok.2.2.1))
    have IHR := hid (fun a w => implHasType r a w (implTermType r w hok.2.2.2))
    have HPT := hid (fun w => implPairTypes k w hok.1 hok.2.1)
    change Calls Tryz.prog 198 #[.iface 240 (.agg #[.int .i64 k, l.val, r.val])] w fun e w' => e = .returned (.tuple #[.int .i64 (pairOwn k), .bool (tyIs l (pairAsk k) && tyIs r (pairAsk k))]) ∧ Below w.heap.size w w'
    have HB : Hid (Below w.heap.size w (w.alloc (.cells #[.int .i64 k, l.val, r.val] 240))) := hid ((Below.refl _ w).alloc (Nat.le_refl _) _)
    obtain ⟨ty1, v1, hv1⟩ := l.val_if
    obtain ⟨ty2, v2, hv2⟩ := r.val_if
    rw [hv1] at IHL HB ⊢
    rw [hv2] at IHR HB ⊢
    clear hv1 hv2 hok
    generalize pairAsk k = ask at *
    generalize pairOwn k = own at *
    go_enter Tryz.func198, Tryz.ntmps198
    go_wp2_with (first
      | (go_at_call 203; refine (HPT.out _).mono ?_; rintro e w1 ⟨rfl, rfl⟩))
    refine (IHL.out ask _).mono ?_
    rintro e w1 ⟨rfl, hb1⟩
    have B1 := HB.out.trans (hb1.mono HB.out.size)
    have u2 := kept_cell hb1 (b := w.heap.size) (o := 2) (v := .iface ty2 v2) (by simp) (by go_simp)
    cases h1 : tyIs l ask
    · go_wp2
      go_ret2
      exact ⟨by rw [h1]; rfl, B1⟩
    · go_wp2_with fail
      refine (IHR.out ask _).mono ?_
      rintro e w2 ⟨rfl, hb2⟩
      go_wp2
      go_ret2
      exact ⟨by rw [h1]; rfl, B1.trans (hb2.mono B1.size)⟩
set_option maxRecDepth 100000 in
set_option maxHeartbeats 2000000 in
theorem implTypeOf (B : Nat) (ns : List NodeD) (v : Value) (w : World) (hl : ns.length ≤ 1048576) (ha : Nd.At w B v ns) :
    Calls Tryz.prog 183 #[v] w fun e w' => e = .returned (.agg #[.int .i64 (typeCode ns), .int .i64 (typeVal ns)]) ∧ Below w.heap.size w w' := by
  obtain ⟨a, cap, rfl⟩ := ha.slice
  have hb0 : Below w.heap.size w (w.alloc (.cells #[.int .i64 0, .int .i64 0] 213)) := (Below.refl _ w).alloc (Nat.le_refl _) _
  have HF := hid (implTop B ns _ (w.alloc (.cells #[.int .i64 0, .int .i64 0] 213)) hl (ha.below hb0))
  clear ha
  go_enter Tryz.func183, Tryz.ntmps183
  go_wp2_with fail
  refine HF.out.mono ?_
  rintro e w1 ⟨h1, hb1⟩
  have B1 : Below w.heap.size w w1 := hb0.trans (hb1.mono (by simp))
  simp only [World.size_alloc] at hb1
  have l1 : w.heap.size < w1.heap.size := by have := hb1.size; simp at this; omega
  have r0 := kept_cell hb1 (b := w.heap.size) (o := 0) (v := .int .i64 0) (by omega) (by go_simp)
  have r1 := kept_cell hb1 (b := w.heap.size) (o := 1) (v := .int .i64 0) (by omega) (by go_simp)
  have f0 := kept_free hb1 (b := w.heap.size) (o := 0) (by omega) (by go_simp)
  have f1 := kept_free hb1 (b := w.heap.size) (o := 1) (by omega) (by go_simp)
  rcases h1 with ⟨t, h0, h1, rfl⟩ | ⟨h0, rfl⟩
  · have HT := hid (implTermType t w1 (top_nodes h0 h1).2.1)
    obtain ⟨g1, g2⟩ := top_fit h0 h1
    have HTB := hid (fun h => ty_bad h0 (g1.symm.trans h))
    have HTO := hid (fun h => ty_ok h0 (g1.symm.trans h))
    have HTY := hid g2
    obtain ⟨ty1, v1, hv1⟩ := t.val_if
    rw [hv1] at HT ⊢
    clear hv1 h0 h1 g1 g2 HF
    generalize t.ty = tty at *
    go_wp2_with fail
    refine HT.out.mono ?_
    rintro e w2 ⟨rfl, hb2⟩
    have B2 := B1.trans (hb2.mono B1.size)
    have u0 := kept_cell hb2 l1 r0
    have u1 := kept_cell hb2 l1 r1
    have x0 := kept_free hb2 l1 f0
    have x1 := kept_free hb2 l1 f1
    have l2 : w.heap.size < w2.heap.size := by have := hb2.size; omega
    cases hfit : t.fit
    · have HV := hid (HTB.out hfit)
      clear hfit
      go_wp2
      exact bodyPost_ret (v := .agg #[.int .i64 7, .int .i64 0]) (by simp [results, Tryz.results183, go_sem, u0, u1]) rfl ⟨ret_two HV.out.1.symm HV.out.2.symm, setB (setB B2 (Nat.le_refl _) _) (Nat.le_refl _) _⟩
    · have HV := hid (HTO.out hfit)
      clear hfit
      go_wp2
      exact bodyPost_ret (v := .agg #[.int .i64 0, .int .i64 tty]) (by simp [results, Tryz.results183, go_sem, u0, u1]) rfl ⟨ret_two HV.out.1.symm (HTY.out.trans HV.out.2.symm), setB (setB B2 (Nat.le_refl _) _) (Nat.le_refl _) _⟩
  · have HV := hid (ty_fault h0)
    have b1 : (eFault ns != 0) = true := by simpa using h0
    clear h0 HF
    generalize eFault ns = ef at *
    go_wp2
    exact bodyPost_ret (v := .agg #[.int .i64 ef, .int .i64 0]) (by simp [results, Tryz.results183, go_sem, r0, r1]) rfl ⟨ret_two HV.out.1.symm HV.out.2.symm, setB (setB B1 (Nat.le_refl _) _) (Nat.le_refl _) _⟩
end Ex
end Go.Proofs.YtpmlialjoonpeaaGreatDoor
