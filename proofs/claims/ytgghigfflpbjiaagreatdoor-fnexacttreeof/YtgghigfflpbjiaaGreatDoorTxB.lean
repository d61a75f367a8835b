/- The specification's texts: l3Digits, l3Text, ExprText. -/
import Derived.Test.YtgghigfflpbjiaaGreatDoorTxA
import Derived.Lib.SlBytesConst
import Derived.Deep.RegionWith
namespace Go.Proofs.YtgghigfflpbjiaaGreatDoor
open Go.RowKit
set_option linter.unusedVariables false
namespace Ex
open Nd (NodeD)
open Go.Lib (decDigits decDigits_one)
theorem dgNat {m : Nat} (h : m < 10) : ((UInt8.ofNat (48 + m)).toNat : Int) = 48 + (m : Int) := by rw [dig_toNat h]; omega
theorem conv1 (g m : Nat) (hm : m < 10) (w : World) (hc : w.cell? ⟨g, 0, none⟩ = some (.int .u8 (48 + (m : Int)))) : Sem.run Tryz.prog (convert 92 9 (.slice (some ⟨g, 0, none⟩) 1 1)) w = .ok (.string (str [UInt8.ofNat (48 + m)])) w := by
  refine run_convert_bytes_back (P := Tryz.prog) _ 92 9 5 ⟨g, 0, none⟩ 1 [UInt8.ofNat (48 + m)] Tryz.underlying92 Tryz.underlying5 Tryz.underlying9 ?_
  intro i hi
  obtain rfl : i = 0 := by simpa using hi
  simp only [Addr.add, Nat.add_zero, List.getElem_cons_zero]
  rw [dgNat hm]
  exact hc
set_option maxRecDepth 100000 in
set_option maxHeartbeats 4000000 in
theorem specDigits : ∀ (f n : Nat) (w : World), n < f → n ≤ 9999 → Calls Tryz.prog 70 #[.int .i64 (n : Int)] w fun e w' => e = .returned (.string (str (decDigits n))) ∧ Below w.heap.size w w'
  | 0, n, w, h, _ => by omega
  | f + 1, n, w, h, h9 => by
    by_cases h10 : n < 10
    · have HV : Hid (str (decDigits n) = str [UInt8.ofNat (48 + n)]) := hid (by rw [decDigits_one h10])
      have q1 : (n : Int) < 10 := by omega
      have HC := hid (conv1 w.heap.size n h10 (w.alloc (.cells #[.int .u8 (48 + (n : Int))] 5)) (by go_simp))
      have HB : Hid (Below w.heap.size w (w.alloc (.cells #[.int .u8 (48 + (n : Int))] 5))) := hid ((Below.refl _ w).alloc (Nat.le_refl _) _)
      clear h10
      generalize str [UInt8.ofNat (48 + n)] = ds at *
      go_enter Tryz.func70, Tryz.ntmps70
      go_wp2
      rw [HC.out]
      simp only [Result.andThen]
      rw [Oper.upon_value]
      go_wp2
      go_ret
      exact ⟨by rw [HV.out]; rfl, HB.out⟩
    · have IH : Hid (∀ (x : Int) (w : World), x = ((n / 10 : Nat) : Int) → Calls Tryz.prog 70 #[.int .i64 x] w fun e w' => e = .returned (.string (str (decDigits (n / 10)))) ∧ Below w.heap.size w w') := hid (fun x w hx => by rw [hx]; exact specDigits f (n / 10) w (by omega) (by omega))
      have HV : Hid (str (decDigits n) = str (decDigits (n / 10)) ++ str [UInt8.ofNat (48 + n % 10)]) := hid (by rw [str_app, ← dec_big h10])
      have q1 : ¬ (n : Int) < 10 := by omega
      have zl : (str (decDigits (n / 10))).size ≤ 4 := by rw [str_size]; exact dec_len 3 (n / 10) (by omega)
      have z1 : (str [UInt8.ofNat (48 + n % 10)]).size = 1 := rfl
      have ad1 := add_str (str (decDigits (n / 10))) (str [UInt8.ofNat (48 + n % 10)]) (by omega)
      have hbv : (IntKind.u8.wrap (IntKind.i64.wrap (48 + (n : Int).tmod 10))) = 48 + ((n % 10 : Nat) : Int) := by
        rw [IntKind.wrap_u8, IntWalk.i64_in _ (by rw [Int.tmod_eq_emod_of_nonneg (by omega)]; omega), Int.tmod_eq_emod_of_nonneg (by omega)]
        omega
      have HC : Hid (∀ (g : Nat) (w : World), w.cell? ⟨g, 0, none⟩ = some (.int .u8 (IntKind.u8.wrap (IntKind.i64.wrap (48 + (n : Int).tmod 10)))) → Sem.run Tryz.prog (convert 92 9 (.slice (some ⟨g, 0, none⟩) 1 1)) w = .ok (.string (str [UInt8.ofNat (48 + n % 10)])) w) := hid (fun g w h => conv1 g (n % 10) (by omega) w (by rw [h, hbv]))
      clear h10 zl z1 hbv
      generalize str [UInt8.ofNat (48 + n % 10)] = ds at *
      generalize str (decDigits (n / 10)) = dh at *
      have cvA : ∀ X : World, Sem.run Tryz.prog (convert 92 9 (.slice (some ⟨X.heap.size, 0, none⟩) 1 1)) (X.alloc (.cells #[.int .u8 (IntKind.u8.wrap (IntKind.i64.wrap (48 + (n : Int).tmod 10)))] 5)) = .ok (.string ds) (X.alloc (.cells #[.int .u8 (IntKind.u8.wrap (IntKind.i64.wrap (48 + (n : Int).tmod 10)))] 5)) := fun X => HC.out X.heap.size _ (by go_simp)
      have cvB : ∀ X : World, Sem.run Tryz.prog (convert 92 9 (.slice (some ⟨X.heap.size, 0, none⟩) 1 1)) (X.alloc (.cells #[.int .u8 (IntKind.u8.wrap (IntKind.i64.wrap (48 + (n : Int).tmod 10)))] 5)).drew = .ok (.string ds) (X.alloc (.cells #[.int .u8 (IntKind.u8.wrap (IntKind.i64.wrap (48 + (n : Int).tmod 10)))] 5)).drew := fun X => HC.out X.heap.size _ (by go_simp)
      have hd0 : Below w.heap.size w w.drew := (Below.refl _ w).drew
      have hd1 : Below w.heap.size w (w.alloc (.cells #[.int .u8 (IntKind.u8.wrap (IntKind.i64.wrap (48 + (n : Int).tmod 10)))] 5)).drew := ((Below.refl _ w).alloc (Nat.le_refl _) _).drew
      have hz1 : w.heap.size < (w.alloc (.cells #[.int .u8 (IntKind.u8.wrap (IntKind.i64.wrap (48 + (n : Int).tmod 10)))] 5)).drew.heap.size := by simp
      have hz2 : w.heap.size ≤ (w.alloc (.cells #[.int .u8 (IntKind.u8.wrap (IntKind.i64.wrap (48 + (n : Int).tmod 10)))] 5)).drew.heap.size := by simp
      have hcd : (w.alloc (.cells #[.int .u8 (IntKind.u8.wrap (IntKind.i64.wrap (48 + (n : Int).tmod 10)))] 5)).drew.cell? ⟨w.heap.size, 0, none⟩ = some (.int .u8 (IntKind.u8.wrap (IntKind.i64.wrap (48 + (n : Int).tmod 10)))) := by go_simp
      have b1 : (0 : Int) ≤ (n : Int) / 10 := by omega
      have b2 : (n : Int) / 10 ≤ 9999 := by omega
      have b3 : (0 : Int) ≤ (n : Int) % 10 := by omega
      have b4 : (n : Int) % 10 ≤ 9 := by omega
      go_enter Tryz.func70, Tryz.ntmps70
      go_wp2
      go_region_with (first
        | (go_at_call 70; refine (IH.out _ _ ?_).mono ?_; (first | rfl | (simp; done) | omega | (rw [IntWalk.i64_in _ (by omega)]; omega)); rintro e w2 ⟨rfl, hb2⟩; (first
             | (have hbw : Below w.heap.size w w2 := hd1.trans (hb2.mono hz2); have hcv := HC.out w.heap.size w2 (kept_cell hb2 hz1 hcd))
             | (have hbw : Below w.heap.size w w2 := hd0.trans (hb2.mono (Nat.le_refl _)))); clear hb2))
      all_goals (go_wp2; go_ret; exact ⟨by rw [HV.out]; rfl, by first | exact hbw | exact hbw.alloc hbw.size _⟩)
end Ex
end Go.Proofs.YtgghigfflpbjiaaGreatDoor
