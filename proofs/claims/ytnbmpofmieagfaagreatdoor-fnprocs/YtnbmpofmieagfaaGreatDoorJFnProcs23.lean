/- The program's texts of terms: termText. Condition: the table of powers of ten lies as its initialiser lays it. -/
import Derived.Test.YtnbmpofmieagfaaGreatDoorJFnProcs6
import Derived.Test.YtnbmpofmieagfaaGreatDoorShelf
import Derived.Lib.AppendIntMem
import Derived.Deep.RegionHeld3
namespace Go.Proofs.YtnbmpofmieagfaaGreatDoor
open Go.RowKit
set_option linter.unusedVariables false
namespace Ex
open Nd (NodeD)
open Go.Lib (decDigits)
def Tab (w : World) : Prop := Lib.TabIs Tryz.prog w "internal/strconv.uint64pow10" .u64 Lib.pow10Tab
theorem Tab.below {w w' : World} (h : Tab w) (hb : Below w.heap.size w w') : Tab w' := Lib.tabBelow_of_tabIs h w' hb
theorem itoa_dec {n : Int} (h : 0 ≤ n) : Lib.itoa n = decDigits n.toNat := by unfold Lib.itoa; rw [if_neg (by omega)]
theorem implInt (n : Int) (w : World) (h0 : 0 ≤ n) (h1 : n ≤ 9999) (ht : Tab w) :
    Calls Tryz.prog 57 #[.int .i64 n, .int .i64 10] w fun e w' => e = .returned (.string ⟨(decDigits n.toNat).toArray⟩) ∧ Below w.heap.size w w' :=
  (Tryz.strconv_FormatInt_10 n (by omega) (by omega) w ht).mono (fun e w' ⟨h1, k, os, h2⟩ => ⟨by rw [h1, itoa_dec h0], by rw [h2]; exact Lib.below_grow _ _ (Nat.le_refl _) _ _⟩)
def str (l : List UInt8) : ByteArray := ⟨l.toArray⟩
theorem str_app (a b : List UInt8) : str a ++ str b = str (a ++ b) := by
  unfold str
  apply ByteArray.ext
  simp
theorem str_size (l : List UInt8) : (str l).size = l.length := by simp [str, ByteArray.size]
theorem add_str (a b : ByteArray) (h : a.size + b.size ≤ 1000000) (w : World) : Sem.run Tryz.prog (Op.stringOp .add a b) w = .ok (.string (a ++ b)) w := run_string_add_sum w a b (by omega)
def sgTail (k : Int) : ByteArray := str ([43, 45, 42, 47, 60, 61, 38].drop (k - 3).toNat)
theorem slice1 {k : Int} (h : k = 3 ∨ k = 4 ∨ k = 5 ∨ k = 6 ∨ k = 7 ∨ k = 8 ∨ k = 9) (w : World) : Sem.run Tryz.prog (Instr.slice 9 (.string ⟨#[43, 45, 42, 47, 60, 61, 38]⟩) (some (.int .i64 (k - 3))) none none) w = .ok (.string (sgTail k)) w := by
  rcases h with rfl | rfl | rfl | rfl | rfl | rfl | rfl <;> kernel_rfl
theorem slice2 {k : Int} (h : k = 3 ∨ k = 4 ∨ k = 5 ∨ k = 6 ∨ k = 7 ∨ k = 8 ∨ k = 9) (w : World) : Sem.run Tryz.prog (Instr.slice 9 (.string (sgTail k)) none (some (.int .i64 1)) none) w = .ok (.string (str [signOf k])) w := by
  rcases h with rfl | rfl | rfl | rfl | rfl | rfl | rfl <;> kernel_rfl
set_option maxRecDepth 100000 in
set_option maxHeartbeats 4000000 in
theorem implText : ∀ (t : Tm) (w : World), t.ok → t.size ≤ 16 → Tab w → Calls Tryz.prog 86 #[t.val] w fun e w' => e = .returned (.string (str t.txt)) ∧ Below w.heap.size w w'
  | ⟨[], false, n⟩, w, hok, hs, ht => by
    have a1 := asCC
    have HI := hid (implInt n w hok.1 hok.2 ht)
    change Calls Tryz.prog 86 #[.iface 157 (.int .i64 n)] w fun e w' => e = .returned (.string ⟨(decDigits n.toNat).toArray⟩) ∧ Below w.heap.size w w'
    clear hok hs ht
    go_enter Tryz.func86, Tryz.ntmps86
    go_wp2_with fail
    refine HI.out.mono ?_
    rintro e w1 ⟨rfl, hb1⟩
    go_wp2
    go_ret
    exact ⟨rfl, hb1⟩
  | ⟨[], true, n⟩, w, hok, hs, ht => by
    have a1 := asVC
    have a2 := asVV
    have HI := hid (implInt n w hok.1 (by have := hok.2; omega) ht)
    have hl := dec_len 0 n.toNat (by have := hok.1; have := hok.2; omega)
    have ad1 := add_str (ByteArray.mk #[118]) (str (decDigits n.toNat)) (by rw [str_size]; have z : (ByteArray.mk #[118]).size = 1 := rfl; omega)
    have HE : Hid (ByteArray.mk #[118] ++ str (decDigits n.toNat) = str (118 :: decDigits n.toNat)) := hid (str_app [118] _)
    change Calls Tryz.prog 86 #[.iface 158 (.int .i64 n)] w fun e w' => e = .returned (.string (str (118 :: decDigits n.toNat))) ∧ Below w.heap.size w w'
    change Hid (Calls Tryz.prog 57 #[.int .i64 n, .int .i64 10] w fun e w' => e = .returned (.string (str (decDigits n.toNat))) ∧ Below w.heap.size w w') at HI
    clear hok hs ht hl
    generalize str (decDigits n.toNat) = dd at *
    generalize str (118 :: decDigits n.toNat) = dv at *
    go_enter Tryz.func86, Tryz.ntmps86
    go_wp2_with fail
    refine HI.out.mono ?_
    rintro e w1 ⟨rfl, hb1⟩
    go_wp2
    go_ret
    exact ⟨by rw [← HE.out]; rfl, hb1⟩
  | ⟨[t], _, _⟩, w, hok, hs, ht => by
    obtain ⟨hok, rfl, rfl⟩ := hok
    have a1 := asNC
    have a2 := asNV
    have a3 := asNN
    have hs' : t.size ≤ 16 := by simp only [Tm.size] at hs; omega
    have hl := txt_len t (near_of_ok hok)
    have hb0 : Below w.heap.size w (w.alloc (.cells #[t.val] 160)) := (Below.refl _ w).alloc (Nat.le_refl _) _
    have IH := hid (implText t (w.alloc (.cells #[t.val] 160)) hok hs' (ht.below hb0))
    have ad1 := add_str (ByteArray.mk #[33]) (str t.txt) (by rw [str_size]; have z : (ByteArray.mk #[33]).size = 1 := rfl; omega)
    have HE : Hid (ByteArray.mk #[33] ++ str t.txt = str (33 :: t.txt)) := hid (str_app [33] _)
    change Calls Tryz.prog 86 #[.iface 160 (.agg #[t.val])] w fun e w' => e = .returned (.string (str (33 :: t.txt))) ∧ Below w.heap.size w w'
    obtain ⟨ty1, v1, hv1⟩ := t.val_if
    rw [hv1] at IH hb0 ⊢
    have HB := hid hb0
    clear hv1 hok hs hs' ht hl hb0
    generalize str t.txt = dd at *
    generalize str (33 :: t.txt) = dv at *
    go_enter Tryz.func86, Tryz.ntmps86
    go_wp2_with fail
    refine IH.out.mono ?_
    rintro e w1 ⟨rfl, hb1⟩
    go_wp2
    go_ret
    exact ⟨by rw [← HE.out]; rfl, HB.out.trans (hb1.mono HB.out.size)⟩
  | ⟨l :: r :: _, _, k⟩, w, hok, hs, ht => by
    obtain ⟨hok, rfl, rfl⟩ := hok
    have a1 := asPC
    have a2 := asPV
    have a3 := asPN
    have a4 := asPP
    have hs1 : l.size ≤ 16 := by simp only [Tm.size] at hs; omega
    have hs2 : r.size ≤ 16 := by simp only [Tm.size] at hs; omega
    have hl1 := txt_len l (near_of_ok hok.2.2.1)
    have hl2 := txt_len r (near_of_ok hok.2.2.2)
    have hb0 : Below w.heap.size w (w.alloc (.cells #[.int .i64 k, l.val, r.val] 162)) := (Below.refl _ w).alloc (Nat.le_refl _) _
    have HC : Hid (∀ (t : Tm) (w : World), t = l ∨ t = r → Tab w → Calls Tryz.prog 86 #[t.val] w fun e w' => e = .returned (.string (str t.txt)) ∧ Below w.heap.size w w') := hid (fun t w h hT => by
      rcases h with rfl | rfl
      · exact implText _ w hok.2.2.1 hs1 hT
      · exact implText _ w hok.2.2.2 hs2 hT)
    have HT := hid (ht.below hb0)
    have zl : (str l.txt).size ≤ 100 := by rw [str_size]; omega
    have zr : (str r.txt).size ≤ 100 := by rw [str_size]; omega
    have z40 : (ByteArray.mk #[40]).size = 1 := rfl
    have z41 : (ByteArray.mk #[41]).size = 1 := rfl
    have zs : (str [signOf k]).size = 1 := rfl
    have ad1 := add_str (ByteArray.mk #[40]) (str l.txt) (by omega)
    have ad2 := add_str (ByteArray.mk #[40] ++ str l.txt) (str [signOf k]) (by simp only [ByteArray.size_append]; omega)
    have ad3 := add_str (ByteArray.mk #[40] ++ str l.txt ++ str [signOf k]) (str r.txt) (by simp only [ByteArray.size_append]; omega)
    have ad4 := add_str (ByteArray.mk #[40] ++ str l.txt ++ str [signOf k] ++ str r.txt) (ByteArray.mk #[41]) (by simp only [ByteArray.size_append]; omega)
    have HE : Hid (ByteArray.mk #[40] ++ str l.txt ++ str [signOf k] ++ str r.txt ++ ByteArray.mk #[41] = str (Tm.pair k l r).txt) := hid (by
      have e40 : ByteArray.mk #[40] = str [40] := rfl
      have e41 : ByteArray.mk #[41] = str [41] := rfl
      rw [e40, e41, str_app, str_app, str_app, str_app]
      simp [Tm.txt])
    change Calls Tryz.prog 86 #[.iface 162 (.agg #[.int .i64 k, l.val, r.val])] w fun e w' => e = .returned (.string (str (Tm.pair k l r).txt)) ∧ Below w.heap.size w w'
    have hk1 := hok.1
    have hk2 := hok.2.1
    clear hok hs hs1 hs2 ht hl1 hl2 z40 z41 zs zl zr
    generalize str (Tm.pair k l r).txt = dv at *
    obtain ⟨ty1, v1, hv1⟩ := l.val_if
    obtain ⟨ty2, v2, hv2⟩ := r.val_if
    rw [hv1] at hb0 HT ⊢
    rw [hv2] at hb0 HT ⊢
    have m1 : (w.alloc (.cells #[.int .i64 k, .iface ty1 v1, .iface ty2 v2] 162)).cell? ⟨w.heap.size, 1, none⟩ = some (.iface ty1 v1) := by go_simp
    have m2 : (w.alloc (.cells #[.int .i64 k, .iface ty1 v1, .iface ty2 v2] 162)).cell? ⟨w.heap.size, 2, none⟩ = some (.iface ty2 v2) := by go_simp
    have hsz : (w.alloc (.cells #[.int .i64 k, .iface ty1 v1, .iface ty2 v2] 162)).heap.size = w.heap.size + 1 := by simp
    have M1 := hid (m1.trans (congrArg some hv1.symm))
    have M2 := hid (m2.trans (congrArg some hv2.symm))
    clear m1 m2 hv1 hv2
    have hkk : k = 3 ∨ k = 4 ∨ k = 5 ∨ k = 6 ∨ k = 7 ∨ k = 8 ∨ k = 9 := by omega
    have hsl1 := slice1 hkk
    have hsl2 := slice2 hkk
    clear hkk
    generalize sgTail k = st at *
    generalize str [signOf k] = sg at *
    go_enter Tryz.func86, Tryz.ntmps86
    go_wp2_with fail
    have HB := hid hb0
    clear hb0 hsl1 hsl2
    have m1 := M1.out
    have m2 := M2.out
    clear M1 M2
    generalize w.alloc (.cells #[.int .i64 k, .iface ty1 v1, .iface ty2 v2] 162) = WA at *
    have hT0 : Tab WA.drew := HT.out.below ((Below.refl _ WA).drew)
    have hB0 : Below w.heap.size w WA.drew := HB.out.drew
    have hZ0 : w.heap.size < WA.drew.heap.size := by show w.heap.size < WA.heap.size; omega
    have m1d : WA.drew.cell? ⟨w.heap.size, 1, none⟩ = some l.val := m1
    have m2d : WA.drew.cell? ⟨w.heap.size, 2, none⟩ = some r.val := m2
    go_region_held3 (fun wx => wx.cell? ⟨w.heap.size, 1, none⟩ = some l.val ∧ wx.cell? ⟨w.heap.size, 2, none⟩ = some r.val ∧ Below w.heap.size w wx ∧ Tab wx ∧ w.heap.size < wx.heap.size) (refine ⟨?_, ?_, ?_, ?_, ?_⟩ <;> first | assumption | (simp [*]; done)) (first
      | (go_at_call 86; refine (HC.out _ _ ?_ ?_).mono ?_; (first | exact .inl rfl | exact .inr rfl); assumption; rintro e w4 ⟨rfl, hb4⟩; have hk4 := kept_cell (b := w.heap.size) (o := 1) (v := l.val) hb4 (by assumption) (by assumption); have hk5 := kept_cell (b := w.heap.size) (o := 2) (v := r.val) hb4 (by assumption) (by assumption); have hT4 := Tab.below (by assumption) hb4; have hZ4 : w.heap.size < w4.heap.size := Nat.lt_of_lt_of_le (by assumption) hb4.size; have hB4 : Below w.heap.size w w4 := Below.trans (by assumption) (hb4.mono (Nat.le_of_lt (by assumption)))))
    go_wp2
    go_ret
    exact ⟨by rw [← HE.out]; rfl, by assumption⟩
theorem ret_text {c d : Int} {a b : ByteArray} (h : c = d) (h2 : a = b) : Ending.returned (.agg #[.int .i64 c, .string a]) = .returned (.agg #[.int .i64 d, .string b]) := by rw [h, h2]
/-- What ExprText answers as text. -/
def textOf (ns : List NodeD) : List UInt8 := match topF ns with
  | some p => if eFault ns = 0 then p.1.txt else []
  | none => []
theorem text_ok {ns : List NodeD} {t : Tm} (h : eFault ns = 0) (h2 : topF ns = some (t, 0)) : textOf ns = t.txt := by unfold textOf; rw [h2]; simp only; rw [if_pos h]
theorem text_bad {ns : List NodeD} (h : eFault ns ≠ 0) : textOf ns = [] := by
  unfold textOf
  split
  · rw [if_neg h]
  · rfl
set_option maxRecDepth 100000 in
set_option maxHeartbeats 2000000 in
theorem implExprText (B : Nat) (ns : List NodeD) (v : Value) (w : World) (hl : ns.length ≤ 1048576) (ha : Nd.At w B v ns) (ht : Tab w) :
    Calls Tryz.prog 55 #[v] w fun e w' => e = .returned (.agg #[.int .i64 (eFault ns), .string (str (textOf ns))]) ∧ Below w.heap.size w w' := by
  obtain ⟨a, cap, rfl⟩ := ha.slice
  have hb0 : Below w.heap.size w (w.alloc (.cells #[.int .i64 0, .string ⟨#[]⟩] 36)) := (Below.refl _ w).alloc (Nat.le_refl _) _
  have HF := hid (implTop B ns _ (w.alloc (.cells #[.int .i64 0, .string ⟨#[]⟩] 36)) hl (ha.below hb0))
  have HT := hid ht
  clear ha ht
  go_enter Tryz.func55, Tryz.ntmps55
  go_wp2_with fail
  refine HF.out.mono ?_
  rintro e w1 ⟨h1, hb1⟩
  have B1 : Below w.heap.size w w1 := hb0.trans (hb1.mono (by simp))
  simp only [World.size_alloc] at hb1
  have l1 : w.heap.size < w1.heap.size := by have := hb1.size; simp at this; omega
  have r0 := kept_cell hb1 (b := w.heap.size) (o := 0) (v := .int .i64 0) (by omega) (by go_simp)
  have r1 := kept_cell hb1 (b := w.heap.size) (o := 1) (v := .string ⟨#[]⟩) (by omega) (by go_simp)
  have f0 := kept_free hb1 (b := w.heap.size) (o := 0) (by omega) (by go_simp)
  have f1 := kept_free hb1 (b := w.heap.size) (o := 1) (by omega) (by go_simp)
  clear HF
  rcases h1 with ⟨t, h0, h1, rfl⟩ | ⟨h0, rfl⟩
  · have hn := top_nodes h0 h1
    have HI := hid (implText t w1 hn.2.1 (by have := of_e h0; omega) (HT.out.below B1))
    have HV := hid (text_ok h0 h1)
    have HZ := hid h0
    obtain ⟨ty1, v1, hv1⟩ := t.val_if
    rw [hv1] at HI ⊢
    clear hv1 h0 h1 hn
    go_wp2_with fail
    refine HI.out.mono ?_
    rintro e w2 ⟨rfl, hb2⟩
    have B2 := B1.trans (hb2.mono B1.size)
    have l2 : w.heap.size < w2.heap.size := by have := hb2.size; omega
    have u0 := kept_cell hb2 l1 r0
    have u1 := kept_cell hb2 l1 r1
    have x0 := kept_free hb2 l1 f0
    have x1 := kept_free hb2 l1 f1
    go_wp2
    exact bodyPost_ret (v := .agg #[.int .i64 0, .string (str t.txt)]) (by simp [results, Tryz.results55, go_sem, u0, u1]) rfl ⟨ret_text HZ.out.symm (by rw [HV.out]), setB (setB B2 (Nat.le_refl _) _) (Nat.le_refl _) _⟩
  · have HV := hid (text_bad h0)
    have b1 : (eFault ns != 0) = true := by simpa using h0
    clear h0
    generalize hef : eFault ns = ef at *
    have HEF := hid hef
    clear hef
    go_wp2
    exact bodyPost_ret (v := .agg #[.int .i64 ef, .string ⟨#[]⟩]) (by simp [results, Tryz.results55, go_sem, r0, r1]) rfl ⟨ret_text HEF.out.symm (by rw [HV.out]; rfl), setB (setB B1 (Nat.le_refl _) _) (Nat.le_refl _) _⟩
end Ex
end Go.Proofs.YtnbmpofmieagfaaGreatDoor
