/- The specification's line of a step. -/
import Derived.Test.YtnbmpofmieagfaaGreatDoorJFnProcs36
import Derived.Test.YtnbmpofmieagfaaGreatDoorJFnProcs29
import Derived.Test.YtnbmpofmieagfaaGreatDoorJFnProcs9
import Derived.Test.YtnbmpofmieagfaaGreatDoorJFnProcs7
namespace Go.Proofs.YtnbmpofmieagfaaGreatDoor
open Go.RowKit
set_option linter.unusedVariables false
set_option linter.unusedSimpArgs false
namespace Pf
open Ex (hid inR eFault str str_app str_size textOf text_ok top_of_e of_e topF add_str specText specDigits)
open Nd (NodeD)
open St (StepD)
open Go.Lib (decDigits)
set_option maxRecDepth 100000 in
set_option maxHeartbeats 2000000 in
theorem specETxt (B : Nat) (ns : List NodeD) (v : Value) (w : World) (hf : eFault ns = 0) (ha : Nd.At w B v ns) :
    Calls Tryz.prog 59 #[v] w fun e w' => e = .returned (.string (str (textOf ns))) ∧ Below w.heap.size w w' := by
  obtain ⟨a, cap, rfl⟩ := ha.slice
  obtain ⟨t, ht⟩ := top_of_e hf
  obtain ⟨h0, h16, hok⟩ := of_e hf
  have HI := hid (specText ns _ B hok h16 ns.length (ns.length - 1) t 0 w (by omega) (by omega) ht ha)
  have hcast : (((ns.length - 1 : Nat) : Nat) : Int) = (ns.length : Int) - 1 := by omega
  rw [hcast] at HI
  rw [text_ok hf ht]
  clear hf ht hok hcast ha
  go_enter Tryz.func59, Tryz.ntmps59
  go_wp2_with fail
  refine HI.out.mono ?_
  rintro e w1 ⟨rfl, hb1⟩
  go_wp2
  go_ret
  exact ⟨rfl, hb1⟩
theorem b_str (l : List UInt8) : ByteArray.mk l.toArray = str l := rfl
theorem name_str (b : ByteArray) : str b.data.toList = b := by cases b; rfl
set_option maxRecDepth 100000 in
set_option maxHeartbeats 4000000 in
theorem line01 (B : Nat) (s : StepD) (g o a : Nat) (vc ve : Value) (w : World) (hF : Fine s) (hk : s.kind = 1) (ha : True) (hq : s.cond.length = 0) (hs : SAt w g o s vc ve) (hc : Nd.At w B vc s.cond) (he : Nd.At w B ve s.expr) :
    Calls Tryz.prog 36 #[.pointer (some ⟨g, o, none⟩)] w fun e w' => e = .returned (.string (str (lineL s))) ∧ Below w.heap.size w w' := by
  obtain ⟨c0, c1, c2, c3, c4, c5⟩ := hs
  have hlt := Nd.lt_of_cell c0
  obtain ⟨ac, cc, rfl⟩ := hc.slice
  obtain ⟨ae, ce, rfl⟩ := he.slice
  have y0 : (ByteArray.mk #[]).size = 0 := rfl
  have y1 : (ByteArray.mk #[32]).size = 1 := rfl
  have y2 : (ByteArray.mk #[105, 102, 32]).size = 3 := rfl
  have y3 : (ByteArray.mk #[115, 101, 113]).size = 3 := rfl
  have y4 : (ByteArray.mk #[32, 118]).size = 2 := rfl
  have ad0 := add_str (ByteArray.mk #[]) (ByteArray.mk #[115, 101, 113]) (by (try simp only [ByteArray.size_append]); omega)
  have HV : Hid (str (lineL s) = ByteArray.mk #[] ++ ByteArray.mk #[115, 101, 113]) := hid (by
    have e1 : wordL s.kind = [115, 101, 113] := by rw [hk]; rfl
    have e2 : tailL s = [] := by unfold tailL; rw [if_neg (by omega), if_neg (by omega), if_neg (by omega)]
    have e3 : condL s = [] := by unfold condL; rw [if_pos hq]
    unfold lineL; rw [e1, e2, e3]
    simp only [← str_app, List.append_nil, ByteArray.append_assoc]
    rfl)
  rw [HV.out]
  rw [hk] at c0
  have q1 : ¬ (0 : Int) < (s.cond.length : Int) := by omega
  clear HV hk hF hc he y0 y1 y2 y3 y4
  go_enter Tryz.func36, Tryz.ntmps36
  have hb1 : Below w.heap.size w w := Below.refl _ w
  have HA : Hid (Below w.heap.size w (w.alloc (.cells #[.string ⟨#[]⟩, .string ⟨#[115, 101, 113]⟩, .string ⟨#[116, 97, 115, 107]⟩, .string ⟨#[120, 111, 114]⟩, .string ⟨#[97, 110, 100]⟩, .string ⟨#[119, 97, 105, 116]⟩, .string ⟨#[116, 105, 109, 101, 114]⟩, .string ⟨#[115, 101, 116]⟩, .string ⟨#[103, 117, 97, 114, 100]⟩] 9))) := hid (hb1.alloc hb1.size _)
  go_wp2
  go_ret
  exact ⟨rfl, HA.out⟩
set_option maxRecDepth 100000 in
set_option maxHeartbeats 4000000 in
theorem line02 (B : Nat) (s : StepD) (g o a : Nat) (vc ve : Value) (w : World) (hF : Fine s) (hk : s.kind = 2) (ha : True) (hq : s.cond.length = 0) (hs : SAt w g o s vc ve) (hc : Nd.At w B vc s.cond) (he : Nd.At w B ve s.expr) :
    Calls Tryz.prog 36 #[.pointer (some ⟨g, o, none⟩)] w fun e w' => e = .returned (.string (str (lineL s))) ∧ Below w.heap.size w w' := by
  obtain ⟨c0, c1, c2, c3, c4, c5⟩ := hs
  have hlt := Nd.lt_of_cell c0
  obtain ⟨ac, cc, rfl⟩ := hc.slice
  obtain ⟨ae, ce, rfl⟩ := he.slice
  have zn := hF.name hk
  have y0 : (ByteArray.mk #[]).size = 0 := rfl
  have y1 : (ByteArray.mk #[32]).size = 1 := rfl
  have y2 : (ByteArray.mk #[105, 102, 32]).size = 3 := rfl
  have y3 : (ByteArray.mk #[116, 97, 115, 107]).size = 4 := rfl
  have y4 : (ByteArray.mk #[32, 118]).size = 2 := rfl
  have ad0 := add_str (ByteArray.mk #[]) (ByteArray.mk #[116, 97, 115, 107]) (by (try simp only [ByteArray.size_append]); omega)
  have ad1 := add_str (ByteArray.mk #[] ++ ByteArray.mk #[116, 97, 115, 107]) (ByteArray.mk #[32]) (by (try simp only [ByteArray.size_append]); omega)
  have ad2 := add_str (ByteArray.mk #[] ++ ByteArray.mk #[116, 97, 115, 107] ++ ByteArray.mk #[32]) (s.name) (by (try simp only [ByteArray.size_append]); omega)
  have HV : Hid (str (lineL s) = ByteArray.mk #[] ++ ByteArray.mk #[116, 97, 115, 107] ++ ByteArray.mk #[32] ++ s.name) := hid (by
    have e1 : wordL s.kind = [116, 97, 115, 107] := by rw [hk]; rfl
    have e2 : tailL s = [32] ++ s.name.data.toList := by unfold tailL; rw [if_pos hk]
    have e3 : condL s = [] := by unfold condL; rw [if_pos hq]
    unfold lineL; rw [e1, e2, e3]
    simp only [← str_app, name_str, List.append_nil, ByteArray.append_assoc]
    rfl)
  rw [HV.out]
  rw [hk] at c0
  have q1 : ¬ (0 : Int) < (s.cond.length : Int) := by omega
  clear HV hk hF hc he y0 y1 y2 y3 y4 zn
  generalize s.name = nm at *
  go_enter Tryz.func36, Tryz.ntmps36
  have hb1 : Below w.heap.size w w := Below.refl _ w
  have HA : Hid (Below w.heap.size w (w.alloc (.cells #[.string ⟨#[]⟩, .string ⟨#[115, 101, 113]⟩, .string ⟨#[116, 97, 115, 107]⟩, .string ⟨#[120, 111, 114]⟩, .string ⟨#[97, 110, 100]⟩, .string ⟨#[119, 97, 105, 116]⟩, .string ⟨#[116, 105, 109, 101, 114]⟩, .string ⟨#[115, 101, 116]⟩, .string ⟨#[103, 117, 97, 114, 100]⟩] 9))) := hid (hb1.alloc hb1.size _)
  go_wp2
  go_ret
  exact ⟨rfl, HA.out⟩
set_option maxRecDepth 100000 in
set_option maxHeartbeats 4000000 in
theorem line03 (B : Nat) (s : StepD) (g o a : Nat) (vc ve : Value) (w : World) (hF : Fine s) (hk : s.kind = 3) (ha : True) (hq : s.cond.length = 0) (hs : SAt w g o s vc ve) (hc : Nd.At w B vc s.cond) (he : Nd.At w B ve s.expr) :
    Calls Tryz.prog 36 #[.pointer (some ⟨g, o, none⟩)] w fun e w' => e = .returned (.string (str (lineL s))) ∧ Below w.heap.size w w' := by
  obtain ⟨c0, c1, c2, c3, c4, c5⟩ := hs
  have hlt := Nd.lt_of_cell c0
  obtain ⟨ac, cc, rfl⟩ := hc.slice
  obtain ⟨ae, ce, rfl⟩ := he.slice
  have y0 : (ByteArray.mk #[]).size = 0 := rfl
  have y1 : (ByteArray.mk #[32]).size = 1 := rfl
  have y2 : (ByteArray.mk #[105, 102, 32]).size = 3 := rfl
  have y3 : (ByteArray.mk #[120, 111, 114]).size = 3 := rfl
  have y4 : (ByteArray.mk #[32, 118]).size = 2 := rfl
  have ad0 := add_str (ByteArray.mk #[]) (ByteArray.mk #[120, 111, 114]) (by (try simp only [ByteArray.size_append]); omega)
  have HV : Hid (str (lineL s) = ByteArray.mk #[] ++ ByteArray.mk #[120, 111, 114]) := hid (by
    have e1 : wordL s.kind = [120, 111, 114] := by rw [hk]; rfl
    have e2 : tailL s = [] := by unfold tailL; rw [if_neg (by omega), if_neg (by omega), if_neg (by omega)]
    have e3 : condL s = [] := by unfold condL; rw [if_pos hq]
    unfold lineL; rw [e1, e2, e3]
    simp only [← str_app, List.append_nil, ByteArray.append_assoc]
    rfl)
  rw [HV.out]
  rw [hk] at c0
  have q1 : ¬ (0 : Int) < (s.cond.length : Int) := by omega
  clear HV hk hF hc he y0 y1 y2 y3 y4
  go_enter Tryz.func36, Tryz.ntmps36
  have hb1 : Below w.heap.size w w := Below.refl _ w
  have HA : Hid (Below w.heap.size w (w.alloc (.cells #[.string ⟨#[]⟩, .string ⟨#[115, 101, 113]⟩, .string ⟨#[116, 97, 115, 107]⟩, .string ⟨#[120, 111, 114]⟩, .string ⟨#[97, 110, 100]⟩, .string ⟨#[119, 97, 105, 116]⟩, .string ⟨#[116, 105, 109, 101, 114]⟩, .string ⟨#[115, 101, 116]⟩, .string ⟨#[103, 117, 97, 114, 100]⟩] 9))) := hid (hb1.alloc hb1.size _)
  go_wp2
  go_ret
  exact ⟨rfl, HA.out⟩
set_option maxRecDepth 100000 in
set_option maxHeartbeats 4000000 in
theorem line04 (B : Nat) (s : StepD) (g o a : Nat) (vc ve : Value) (w : World) (hF : Fine s) (hk : s.kind = 4) (ha : True) (hq : s.cond.length = 0) (hs : SAt w g o s vc ve) (hc : Nd.At w B vc s.cond) (he : Nd.At w B ve s.expr) :
    Calls Tryz.prog 36 #[.pointer (some ⟨g, o, none⟩)] w fun e w' => e = .returned (.string (str (lineL s))) ∧ Below w.heap.size w w' := by
  obtain ⟨c0, c1, c2, c3, c4, c5⟩ := hs
  have hlt := Nd.lt_of_cell c0
  obtain ⟨ac, cc, rfl⟩ := hc.slice
  obtain ⟨ae, ce, rfl⟩ := he.slice
  have y0 : (ByteArray.mk #[]).size = 0 := rfl
  have y1 : (ByteArray.mk #[32]).size = 1 := rfl
  have y2 : (ByteArray.mk #[105, 102, 32]).size = 3 := rfl
  have y3 : (ByteArray.mk #[97, 110, 100]).size = 3 := rfl
  have y4 : (ByteArray.mk #[32, 118]).size = 2 := rfl
  have ad0 := add_str (ByteArray.mk #[]) (ByteArray.mk #[97, 110, 100]) (by (try simp only [ByteArray.size_append]); omega)
  have HV : Hid (str (lineL s) = ByteArray.mk #[] ++ ByteArray.mk #[97, 110, 100]) := hid (by
    have e1 : wordL s.kind = [97, 110, 100] := by rw [hk]; rfl
    have e2 : tailL s = [] := by unfold tailL; rw [if_neg (by omega), if_neg (by omega), if_neg (by omega)]
    have e3 : condL s = [] := by unfold condL; rw [if_pos hq]
    unfold lineL; rw [e1, e2, e3]
    simp only [← str_app, List.append_nil, ByteArray.append_assoc]
    rfl)
  rw [HV.out]
  rw [hk] at c0
  have q1 : ¬ (0 : Int) < (s.cond.length : Int) := by omega
  clear HV hk hF hc he y0 y1 y2 y3 y4
  go_enter Tryz.func36, Tryz.ntmps36
  have hb1 : Below w.heap.size w w := Below.refl _ w
  have HA : Hid (Below w.heap.size w (w.alloc (.cells #[.string ⟨#[]⟩, .string ⟨#[115, 101, 113]⟩, .string ⟨#[116, 97, 115, 107]⟩, .string ⟨#[120, 111, 114]⟩, .string ⟨#[97, 110, 100]⟩, .string ⟨#[119, 97, 105, 116]⟩, .string ⟨#[116, 105, 109, 101, 114]⟩, .string ⟨#[115, 101, 116]⟩, .string ⟨#[103, 117, 97, 114, 100]⟩] 9))) := hid (hb1.alloc hb1.size _)
  go_wp2
  go_ret
  exact ⟨rfl, HA.out⟩
set_option maxRecDepth 100000 in
set_option maxHeartbeats 4000000 in
theorem line05 (B : Nat) (s : StepD) (g o a : Nat) (vc ve : Value) (w : World) (hF : Fine s) (hk : s.kind = 5) (ha : s.arg = (a : Int)) (hq : s.cond.length = 0) (hs : SAt w g o s vc ve) (hc : Nd.At w B vc s.cond) (he : Nd.At w B ve s.expr) :
    Calls Tryz.prog 36 #[.pointer (some ⟨g, o, none⟩)] w fun e w' => e = .returned (.string (str (lineL s))) ∧ Below w.heap.size w w' := by
  obtain ⟨c0, c1, c2, c3, c4, c5⟩ := hs
  have hlt := Nd.lt_of_cell c0
  obtain ⟨ac, cc, rfl⟩ := hc.slice
  obtain ⟨ae, ce, rfl⟩ := he.slice
  have za : (str (decDigits a)).size ≤ 2 := by rw [str_size]; have := dig_len (hF.arg); rw [ha] at this; exact this
  have a99 : a ≤ 99 := by have := hF.arg; omega
  have HD := hid (fun (w' : World) => specDigits (a + 1) a w' (by omega) (by omega))
  have y0 : (ByteArray.mk #[]).size = 0 := rfl
  have y1 : (ByteArray.mk #[32]).size = 1 := rfl
  have y2 : (ByteArray.mk #[105, 102, 32]).size = 3 := rfl
  have y3 : (ByteArray.mk #[119, 97, 105, 116]).size = 4 := rfl
  have y4 : (ByteArray.mk #[32, 118]).size = 2 := rfl
  have ad0 := add_str (ByteArray.mk #[]) (ByteArray.mk #[119, 97, 105, 116]) (by (try simp only [ByteArray.size_append]); omega)
  have ad1 := add_str (ByteArray.mk #[] ++ ByteArray.mk #[119, 97, 105, 116]) (ByteArray.mk #[32]) (by (try simp only [ByteArray.size_append]); omega)
  have ad2 := add_str (ByteArray.mk #[] ++ ByteArray.mk #[119, 97, 105, 116] ++ ByteArray.mk #[32]) (str (decDigits a)) (by (try simp only [ByteArray.size_append]); omega)
  have HV : Hid (str (lineL s) = ByteArray.mk #[] ++ ByteArray.mk #[119, 97, 105, 116] ++ ByteArray.mk #[32] ++ str (decDigits a)) := hid (by
    have e1 : wordL s.kind = [119, 97, 105, 116] := by rw [hk]; rfl
    have e2 : tailL s = [32] ++ decDigits a := by unfold tailL; rw [if_neg (by omega), if_neg (by omega), if_pos (by omega), ha]; rfl
    have e3 : condL s = [] := by unfold condL; rw [if_pos hq]
    unfold lineL; rw [e1, e2, e3]
    simp only [← str_app, List.append_nil, ByteArray.append_assoc]
    rfl)
  rw [HV.out]
  rw [hk] at c0
  rw [ha] at c3
  have q1 : ¬ (0 : Int) < (s.cond.length : Int) := by omega
  clear HV hk hF hc he y0 y1 y2 y3 y4 za a99 ha
  generalize str (decDigits a) = da at *
  go_enter Tryz.func36, Tryz.ntmps36
  have hb1 : Below w.heap.size w w := Below.refl _ w
  have HA : Hid (Below w.heap.size w (w.alloc (.cells #[.string ⟨#[]⟩, .string ⟨#[115, 101, 113]⟩, .string ⟨#[116, 97, 115, 107]⟩, .string ⟨#[120, 111, 114]⟩, .string ⟨#[97, 110, 100]⟩, .string ⟨#[119, 97, 105, 116]⟩, .string ⟨#[116, 105, 109, 101, 114]⟩, .string ⟨#[115, 101, 116]⟩, .string ⟨#[103, 117, 97, 114, 100]⟩] 9))) := hid (hb1.alloc hb1.size _)
  go_wp2_with fail
  refine (HD.out _).mono ?_
  rintro e w2 ⟨rfl, hb2⟩
  have B2 := HA.out.trans (hb2.mono HA.out.size)
  go_wp2
  go_ret
  exact ⟨rfl, B2⟩
set_option maxRecDepth 100000 in
set_option maxHeartbeats 4000000 in
theorem line06 (B : Nat) (s : StepD) (g o a : Nat) (vc ve : Value) (w : World) (hF : Fine s) (hk : s.kind = 6) (ha : s.arg = (a : Int)) (hq : s.cond.length = 0) (hs : SAt w g o s vc ve) (hc : Nd.At w B vc s.cond) (he : Nd.At w B ve s.expr) :
    Calls Tryz.prog 36 #[.pointer (some ⟨g, o, none⟩)] w fun e w' => e = .returned (.string (str (lineL s))) ∧ Below w.heap.size w w' := by
  obtain ⟨c0, c1, c2, c3, c4, c5⟩ := hs
  have hlt := Nd.lt_of_cell c0
  obtain ⟨ac, cc, rfl⟩ := hc.slice
  obtain ⟨ae, ce, rfl⟩ := he.slice
  have za : (str (decDigits a)).size ≤ 2 := by rw [str_size]; have := dig_len (hF.arg); rw [ha] at this; exact this
  have a99 : a ≤ 99 := by have := hF.arg; omega
  have HD := hid (fun (w' : World) => specDigits (a + 1) a w' (by omega) (by omega))
  have y0 : (ByteArray.mk #[]).size = 0 := rfl
  have y1 : (ByteArray.mk #[32]).size = 1 := rfl
  have y2 : (ByteArray.mk #[105, 102, 32]).size = 3 := rfl
  have y3 : (ByteArray.mk #[116, 105, 109, 101, 114]).size = 5 := rfl
  have y4 : (ByteArray.mk #[32, 118]).size = 2 := rfl
  have ad0 := add_str (ByteArray.mk #[]) (ByteArray.mk #[116, 105, 109, 101, 114]) (by (try simp only [ByteArray.size_append]); omega)
  have ad1 := add_str (ByteArray.mk #[] ++ ByteArray.mk #[116, 105, 109, 101, 114]) (ByteArray.mk #[32]) (by (try simp only [ByteArray.size_append]); omega)
  have ad2 := add_str (ByteArray.mk #[] ++ ByteArray.mk #[116, 105, 109, 101, 114] ++ ByteArray.mk #[32]) (str (decDigits a)) (by (try simp only [ByteArray.size_append]); omega)
  have HV : Hid (str (lineL s) = ByteArray.mk #[] ++ ByteArray.mk #[116, 105, 109, 101, 114] ++ ByteArray.mk #[32] ++ str (decDigits a)) := hid (by
    have e1 : wordL s.kind = [116, 105, 109, 101, 114] := by rw [hk]; rfl
    have e2 : tailL s = [32] ++ decDigits a := by unfold tailL; rw [if_neg (by omega), if_neg (by omega), if_pos (by omega), ha]; rfl
    have e3 : condL s = [] := by unfold condL; rw [if_pos hq]
    unfold lineL; rw [e1, e2, e3]
    simp only [← str_app, List.append_nil, ByteArray.append_assoc]
    rfl)
  rw [HV.out]
  rw [hk] at c0
  rw [ha] at c3
  have q1 : ¬ (0 : Int) < (s.cond.length : Int) := by omega
  clear HV hk hF hc he y0 y1 y2 y3 y4 za a99 ha
  generalize str (decDigits a) = da at *
  go_enter Tryz.func36, Tryz.ntmps36
  have hb1 : Below w.heap.size w w := Below.refl _ w
  have HA : Hid (Below w.heap.size w (w.alloc (.cells #[.string ⟨#[]⟩, .string ⟨#[115, 101, 113]⟩, .string ⟨#[116, 97, 115, 107]⟩, .string ⟨#[120, 111, 114]⟩, .string ⟨#[97, 110, 100]⟩, .string ⟨#[119, 97, 105, 116]⟩, .string ⟨#[116, 105, 109, 101, 114]⟩, .string ⟨#[115, 101, 116]⟩, .string ⟨#[103, 117, 97, 114, 100]⟩] 9))) := hid (hb1.alloc hb1.size _)
  go_wp2_with fail
  refine (HD.out _).mono ?_
  rintro e w2 ⟨rfl, hb2⟩
  have B2 := HA.out.trans (hb2.mono HA.out.size)
  go_wp2
  go_ret
  exact ⟨rfl, B2⟩
set_option maxRecDepth 100000 in
set_option maxHeartbeats 4000000 in
theorem line07 (B : Nat) (s : StepD) (g o a : Nat) (vc ve : Value) (w : World) (hF : Fine s) (hk : s.kind = 7) (ha : s.arg = (a : Int)) (hq : s.cond.length = 0) (hs : SAt w g o s vc ve) (hc : Nd.At w B vc s.cond) (he : Nd.At w B ve s.expr) :
    Calls Tryz.prog 36 #[.pointer (some ⟨g, o, none⟩)] w fun e w' => e = .returned (.string (str (lineL s))) ∧ Below w.heap.size w w' := by
  obtain ⟨c0, c1, c2, c3, c4, c5⟩ := hs
  have hlt := Nd.lt_of_cell c0
  obtain ⟨ac, cc, rfl⟩ := hc.slice
  obtain ⟨ae, ce, rfl⟩ := he.slice
  have za : (str (decDigits a)).size ≤ 2 := by rw [str_size]; have := dig_len (hF.arg); rw [ha] at this; exact this
  have a99 : a ≤ 99 := by have := hF.arg; omega
  have ze : (str (textOf s.expr)).size ≤ 64 := by rw [str_size]; exact text_len (hF.expr hk)
  have HX := hid (fun (w' : World) (h : Below w.heap.size w w') => specETxt B s.expr _ w' (hF.expr hk) (he.below h))
  have HD := hid (fun (w' : World) => specDigits (a + 1) a w' (by omega) (by omega))
  have y0 : (ByteArray.mk #[]).size = 0 := rfl
  have y1 : (ByteArray.mk #[32]).size = 1 := rfl
  have y2 : (ByteArray.mk #[105, 102, 32]).size = 3 := rfl
  have y3 : (ByteArray.mk #[115, 101, 116]).size = 3 := rfl
  have y4 : (ByteArray.mk #[32, 118]).size = 2 := rfl
  have ad0 := add_str (ByteArray.mk #[]) (ByteArray.mk #[115, 101, 116]) (by (try simp only [ByteArray.size_append]); omega)
  have ad1 := add_str (ByteArray.mk #[] ++ ByteArray.mk #[115, 101, 116]) (ByteArray.mk #[32, 118]) (by (try simp only [ByteArray.size_append]); omega)
  have ad2 := add_str (ByteArray.mk #[] ++ ByteArray.mk #[115, 101, 116] ++ ByteArray.mk #[32, 118]) (str (decDigits a)) (by (try simp only [ByteArray.size_append]); omega)
  have ad3 := add_str (ByteArray.mk #[] ++ ByteArray.mk #[115, 101, 116] ++ ByteArray.mk #[32, 118] ++ str (decDigits a)) (ByteArray.mk #[32]) (by (try simp only [ByteArray.size_append]); omega)
  have ad4 := add_str (ByteArray.mk #[] ++ ByteArray.mk #[115, 101, 116] ++ ByteArray.mk #[32, 118] ++ str (decDigits a) ++ ByteArray.mk #[32]) (str (textOf s.expr)) (by (try simp only [ByteArray.size_append]); omega)
  have HV : Hid (str (lineL s) = ByteArray.mk #[] ++ ByteArray.mk #[115, 101, 116] ++ ByteArray.mk #[32, 118] ++ str (decDigits a) ++ ByteArray.mk #[32] ++ str (textOf s.expr)) := hid (by
    have e1 : wordL s.kind = [115, 101, 116] := by rw [hk]; rfl
    have e2 : tailL s = [32, 118] ++ decDigits a ++ [32] ++ textOf s.expr := by unfold tailL; rw [if_neg (by omega), if_pos hk, ha]; rfl
    have e3 : condL s = [] := by unfold condL; rw [if_pos hq]
    unfold lineL; rw [e1, e2, e3]
    simp only [← str_app, List.append_nil, ByteArray.append_assoc]
    rfl)
  rw [HV.out]
  rw [hk] at c0
  rw [ha] at c3
  have q1 : ¬ (0 : Int) < (s.cond.length : Int) := by omega
  clear HV hk hF hc he y0 y1 y2 y3 y4 za a99 ha ze
  generalize str (textOf s.expr) = te at *
  generalize str (decDigits a) = da at *
  go_enter Tryz.func36, Tryz.ntmps36
  have hb1 : Below w.heap.size w w := Below.refl _ w
  have HA : Hid (Below w.heap.size w (w.alloc (.cells #[.string ⟨#[]⟩, .string ⟨#[115, 101, 113]⟩, .string ⟨#[116, 97, 115, 107]⟩, .string ⟨#[120, 111, 114]⟩, .string ⟨#[97, 110, 100]⟩, .string ⟨#[119, 97, 105, 116]⟩, .string ⟨#[116, 105, 109, 101, 114]⟩, .string ⟨#[115, 101, 116]⟩, .string ⟨#[103, 117, 97, 114, 100]⟩] 9))) := hid (hb1.alloc hb1.size _)
  go_wp2
  have k3 := kept_cell HA.out hlt c3
  have k5 := kept_cell HA.out hlt c5
  have HDr := HA.out.drew
  have HS1 : g < (w.alloc (.cells #[.string ⟨#[]⟩, .string ⟨#[115, 101, 113]⟩, .string ⟨#[116, 97, 115, 107]⟩, .string ⟨#[120, 111, 114]⟩, .string ⟨#[97, 110, 100]⟩, .string ⟨#[119, 97, 105, 116]⟩, .string ⟨#[116, 105, 109, 101, 114]⟩, .string ⟨#[115, 101, 116]⟩, .string ⟨#[103, 117, 97, 114, 100]⟩] 9)).drew.heap.size := by simp; omega
  have HS2 : w.heap.size ≤ (w.alloc (.cells #[.string ⟨#[]⟩, .string ⟨#[115, 101, 113]⟩, .string ⟨#[116, 97, 115, 107]⟩, .string ⟨#[120, 111, 114]⟩, .string ⟨#[97, 110, 100]⟩, .string ⟨#[119, 97, 105, 116]⟩, .string ⟨#[116, 105, 109, 101, 114]⟩, .string ⟨#[115, 101, 116]⟩, .string ⟨#[103, 117, 97, 114, 100]⟩] 9)).drew.heap.size := by simp
  go_region_held3 (fun wx => wx.cell? ⟨g, o + 3, none⟩ = some (.int .i64 (a : Int)) ∧ wx.cell? ⟨g, o + 5, none⟩ = some (.slice ae s.expr.length ce) ∧ Below w.heap.size w wx ∧ g < wx.heap.size ∧ w.heap.size ≤ wx.heap.size) (refine ⟨?_, ?_, ?_, ?_, ?_⟩ <;> first | assumption | (simp [*]; done)) (first | (go_at_call 60; refine (HD.out _).mono ?_; rintro e w4 ⟨rfl, hb4⟩; have j3 := kept_cell (b := g) (o := o + 3) (v := .int .i64 (a : Int)) hb4 (by assumption) (by assumption); have j5 := kept_cell (b := g) (o := o + 5) (v := .slice ae s.expr.length ce) hb4 (by assumption) (by assumption); have jB := Below.trans (a := w) (by assumption) (hb4.mono (by assumption)); have jl : g < w4.heap.size := Nat.lt_of_lt_of_le (by assumption) hb4.size; have jm : w.heap.size ≤ w4.heap.size := Nat.le_trans (by assumption) hb4.size) | (go_at_call 59; refine (HX.out _ (by assumption)).mono ?_; rintro e w4 ⟨rfl, hb4⟩; have j3 := kept_cell (b := g) (o := o + 3) (v := .int .i64 (a : Int)) hb4 (by assumption) (by assumption); have j5 := kept_cell (b := g) (o := o + 5) (v := .slice ae s.expr.length ce) hb4 (by assumption) (by assumption); have jB := Below.trans (a := w) (by assumption) (hb4.mono (by assumption)); have jl : g < w4.heap.size := Nat.lt_of_lt_of_le (by assumption) hb4.size; have jm : w.heap.size ≤ w4.heap.size := Nat.le_trans (by assumption) hb4.size))
  go_wp2
  go_ret
  exact ⟨rfl, by assumption⟩
set_option maxRecDepth 100000 in
set_option maxHeartbeats 4000000 in
theorem line08 (B : Nat) (s : StepD) (g o a : Nat) (vc ve : Value) (w : World) (hF : Fine s) (hk : s.kind = 8) (ha : s.arg = (a : Int)) (hq : s.cond.length = 0) (hs : SAt w g o s vc ve) (hc : Nd.At w B vc s.cond) (he : Nd.At w B ve s.expr) :
    Calls Tryz.prog 36 #[.pointer (some ⟨g, o, none⟩)] w fun e w' => e = .returned (.string (str (lineL s))) ∧ Below w.heap.size w w' := by
  obtain ⟨c0, c1, c2, c3, c4, c5⟩ := hs
  have hlt := Nd.lt_of_cell c0
  obtain ⟨ac, cc, rfl⟩ := hc.slice
  obtain ⟨ae, ce, rfl⟩ := he.slice
  have za : (str (decDigits a)).size ≤ 2 := by rw [str_size]; have := dig_len (hF.arg); rw [ha] at this; exact this
  have a99 : a ≤ 99 := by have := hF.arg; omega
  have HD := hid (fun (w' : World) => specDigits (a + 1) a w' (by omega) (by omega))
  have y0 : (ByteArray.mk #[]).size = 0 := rfl
  have y1 : (ByteArray.mk #[32]).size = 1 := rfl
  have y2 : (ByteArray.mk #[105, 102, 32]).size = 3 := rfl
  have y3 : (ByteArray.mk #[103, 117, 97, 114, 100]).size = 5 := rfl
  have y4 : (ByteArray.mk #[32, 118]).size = 2 := rfl
  have ad0 := add_str (ByteArray.mk #[]) (ByteArray.mk #[103, 117, 97, 114, 100]) (by (try simp only [ByteArray.size_append]); omega)
  have ad1 := add_str (ByteArray.mk #[] ++ ByteArray.mk #[103, 117, 97, 114, 100]) (ByteArray.mk #[32]) (by (try simp only [ByteArray.size_append]); omega)
  have ad2 := add_str (ByteArray.mk #[] ++ ByteArray.mk #[103, 117, 97, 114, 100] ++ ByteArray.mk #[32]) (str (decDigits a)) (by (try simp only [ByteArray.size_append]); omega)
  have HV : Hid (str (lineL s) = ByteArray.mk #[] ++ ByteArray.mk #[103, 117, 97, 114, 100] ++ ByteArray.mk #[32] ++ str (decDigits a)) := hid (by
    have e1 : wordL s.kind = [103, 117, 97, 114, 100] := by rw [hk]; rfl
    have e2 : tailL s = [32] ++ decDigits a := by unfold tailL; rw [if_neg (by omega), if_neg (by omega), if_pos (by omega), ha]; rfl
    have e3 : condL s = [] := by unfold condL; rw [if_pos hq]
    unfold lineL; rw [e1, e2, e3]
    simp only [← str_app, List.append_nil, ByteArray.append_assoc]
    rfl)
  rw [HV.out]
  rw [hk] at c0
  rw [ha] at c3
  have q1 : ¬ (0 : Int) < (s.cond.length : Int) := by omega
  clear HV hk hF hc he y0 y1 y2 y3 y4 za a99 ha
  generalize str (decDigits a) = da at *
  go_enter Tryz.func36, Tryz.ntmps36
  have hb1 : Below w.heap.size w w := Below.refl _ w
  have HA : Hid (Below w.heap.size w (w.alloc (.cells #[.string ⟨#[]⟩, .string ⟨#[115, 101, 113]⟩, .string ⟨#[116, 97, 115, 107]⟩, .string ⟨#[120, 111, 114]⟩, .string ⟨#[97, 110, 100]⟩, .string ⟨#[119, 97, 105, 116]⟩, .string ⟨#[116, 105, 109, 101, 114]⟩, .string ⟨#[115, 101, 116]⟩, .string ⟨#[103, 117, 97, 114, 100]⟩] 9))) := hid (hb1.alloc hb1.size _)
  go_wp2_with fail
  refine (HD.out _).mono ?_
  rintro e w2 ⟨rfl, hb2⟩
  have B2 := HA.out.trans (hb2.mono HA.out.size)
  go_wp2
  go_ret
  exact ⟨rfl, B2⟩
set_option maxRecDepth 100000 in
set_option maxHeartbeats 4000000 in
theorem line11 (B : Nat) (s : StepD) (g o a : Nat) (vc ve : Value) (w : World) (hF : Fine s) (hk : s.kind = 1) (ha : True) (hq : 0 < s.cond.length) (hs : SAt w g o s vc ve) (hc : Nd.At w B vc s.cond) (he : Nd.At w B ve s.expr) :
    Calls Tryz.prog 36 #[.pointer (some ⟨g, o, none⟩)] w fun e w' => e = .returned (.string (str (lineL s))) ∧ Below w.heap.size w w' := by
  obtain ⟨c0, c1, c2, c3, c4, c5⟩ := hs
  have hlt := Nd.lt_of_cell c0
  obtain ⟨ac, cc, rfl⟩ := hc.slice
  obtain ⟨ae, ce, rfl⟩ := he.slice
  have zc : (str (textOf s.cond)).size ≤ 64 := by rw [str_size]; exact text_len (hF.cond hq)
  have HC := hid (specETxt B s.cond _ w (hF.cond hq) hc)
  have y0 : (ByteArray.mk #[]).size = 0 := rfl
  have y1 : (ByteArray.mk #[32]).size = 1 := rfl
  have y2 : (ByteArray.mk #[105, 102, 32]).size = 3 := rfl
  have y3 : (ByteArray.mk #[115, 101, 113]).size = 3 := rfl
  have y4 : (ByteArray.mk #[32, 118]).size = 2 := rfl
  have ad0 := add_str (ByteArray.mk #[105, 102, 32]) (str (textOf s.cond)) (by (try simp only [ByteArray.size_append]); omega)
  have ad1 := add_str (ByteArray.mk #[105, 102, 32] ++ str (textOf s.cond)) (ByteArray.mk #[32]) (by (try simp only [ByteArray.size_append]); omega)
  have ad2 := add_str ((ByteArray.mk #[105, 102, 32] ++ str (textOf s.cond) ++ ByteArray.mk #[32])) (ByteArray.mk #[115, 101, 113]) (by (try simp only [ByteArray.size_append]); omega)
  have HV : Hid (str (lineL s) = (ByteArray.mk #[105, 102, 32] ++ str (textOf s.cond) ++ ByteArray.mk #[32]) ++ ByteArray.mk #[115, 101, 113]) := hid (by
    have e1 : wordL s.kind = [115, 101, 113] := by rw [hk]; rfl
    have e2 : tailL s = [] := by unfold tailL; rw [if_neg (by omega), if_neg (by omega), if_neg (by omega)]
    have e3 : condL s = [105, 102, 32] ++ textOf s.cond ++ [32] := by unfold condL; rw [if_neg (by omega)]
    unfold lineL; rw [e1, e2, e3]
    simp only [← str_app, List.append_nil, ByteArray.append_assoc]
    rfl)
  rw [HV.out]
  rw [hk] at c0
  have q1 : (0 : Int) < (s.cond.length : Int) := by omega
  clear HV hk hF hc he y0 y1 y2 y3 y4 zc
  generalize str (textOf s.cond) = tc at *
  go_enter Tryz.func36, Tryz.ntmps36
  go_wp2_with fail
  refine HC.out.mono ?_
  rintro e w1 ⟨rfl, hb1⟩
  have d0 := kept_cell hb1 hlt c0
  have d2 := kept_cell hb1 hlt c2
  have d3 := kept_cell hb1 hlt c3
  have d5 := kept_cell hb1 hlt c5
  clear c0 c2 c3 c5 HC
  have hl1 : g < w1.heap.size := Nat.lt_of_lt_of_le hlt hb1.size
  have HA : Hid (Below w.heap.size w (w1.alloc (.cells #[.string ⟨#[]⟩, .string ⟨#[115, 101, 113]⟩, .string ⟨#[116, 97, 115, 107]⟩, .string ⟨#[120, 111, 114]⟩, .string ⟨#[97, 110, 100]⟩, .string ⟨#[119, 97, 105, 116]⟩, .string ⟨#[116, 105, 109, 101, 114]⟩, .string ⟨#[115, 101, 116]⟩, .string ⟨#[103, 117, 97, 114, 100]⟩] 9))) := hid (hb1.alloc hb1.size _)
  go_wp2
  go_ret
  exact ⟨rfl, HA.out⟩
set_option maxRecDepth 100000 in
set_option maxHeartbeats 4000000 in
theorem line12 (B : Nat) (s : StepD) (g o a : Nat) (vc ve : Value) (w : World) (hF : Fine s) (hk : s.kind = 2) (ha : True) (hq : 0 < s.cond.length) (hs : SAt w g o s vc ve) (hc : Nd.At w B vc s.cond) (he : Nd.At w B ve s.expr) :
    Calls Tryz.prog 36 #[.pointer (some ⟨g, o, none⟩)] w fun e w' => e = .returned (.string (str (lineL s))) ∧ Below w.heap.size w w' := by
  obtain ⟨c0, c1, c2, c3, c4, c5⟩ := hs
  have hlt := Nd.lt_of_cell c0
  obtain ⟨ac, cc, rfl⟩ := hc.slice
  obtain ⟨ae, ce, rfl⟩ := he.slice
  have zc : (str (textOf s.cond)).size ≤ 64 := by rw [str_size]; exact text_len (hF.cond hq)
  have HC := hid (specETxt B s.cond _ w (hF.cond hq) hc)
  have zn := hF.name hk
  have y0 : (ByteArray.mk #[]).size = 0 := rfl
  have y1 : (ByteArray.mk #[32]).size = 1 := rfl
  have y2 : (ByteArray.mk #[105, 102, 32]).size = 3 := rfl
  have y3 : (ByteArray.mk #[116, 97, 115, 107]).size = 4 := rfl
  have y4 : (ByteArray.mk #[32, 118]).size = 2 := rfl
  have ad0 := add_str (ByteArray.mk #[105, 102, 32]) (str (textOf s.cond)) (by (try simp only [ByteArray.size_append]); omega)
  have ad1 := add_str (ByteArray.mk #[105, 102, 32] ++ str (textOf s.cond)) (ByteArray.mk #[32]) (by (try simp only [ByteArray.size_append]); omega)
  have ad2 := add_str ((ByteArray.mk #[105, 102, 32] ++ str (textOf s.cond) ++ ByteArray.mk #[32])) (ByteArray.mk #[116, 97, 115, 107]) (by (try simp only [ByteArray.size_append]); omega)
  have ad3 := add_str ((ByteArray.mk #[105, 102, 32] ++ str (textOf s.cond) ++ ByteArray.mk #[32]) ++ ByteArray.mk #[116, 97, 115, 107]) (ByteArray.mk #[32]) (by (try simp only [ByteArray.size_append]); omega)
  have ad4 := add_str ((ByteArray.mk #[105, 102, 32] ++ str (textOf s.cond) ++ ByteArray.mk #[32]) ++ ByteArray.mk #[116, 97, 115, 107] ++ ByteArray.mk #[32]) (s.name) (by (try simp only [ByteArray.size_append]); omega)
  have HV : Hid (str (lineL s) = (ByteArray.mk #[105, 102, 32] ++ str (textOf s.cond) ++ ByteArray.mk #[32]) ++ ByteArray.mk #[116, 97, 115, 107] ++ ByteArray.mk #[32] ++ s.name) := hid (by
    have e1 : wordL s.kind = [116, 97, 115, 107] := by rw [hk]; rfl
    have e2 : tailL s = [32] ++ s.name.data.toList := by unfold tailL; rw [if_pos hk]
    have e3 : condL s = [105, 102, 32] ++ textOf s.cond ++ [32] := by unfold condL; rw [if_neg (by omega)]
    unfold lineL; rw [e1, e2, e3]
    simp only [← str_app, name_str, List.append_nil, ByteArray.append_assoc]
    rfl)
  rw [HV.out]
  rw [hk] at c0
  have q1 : (0 : Int) < (s.cond.length : Int) := by omega
  clear HV hk hF hc he y0 y1 y2 y3 y4 zc zn
  generalize str (textOf s.cond) = tc at *
  generalize s.name = nm at *
  go_enter Tryz.func36, Tryz.ntmps36
  go_wp2_with fail
  refine HC.out.mono ?_
  rintro e w1 ⟨rfl, hb1⟩
  have d0 := kept_cell hb1 hlt c0
  have d2 := kept_cell hb1 hlt c2
  have d3 := kept_cell hb1 hlt c3
  have d5 := kept_cell hb1 hlt c5
  clear c0 c2 c3 c5 HC
  have hl1 : g < w1.heap.size := Nat.lt_of_lt_of_le hlt hb1.size
  have HA : Hid (Below w.heap.size w (w1.alloc (.cells #[.string ⟨#[]⟩, .string ⟨#[115, 101, 113]⟩, .string ⟨#[116, 97, 115, 107]⟩, .string ⟨#[120, 111, 114]⟩, .string ⟨#[97, 110, 100]⟩, .string ⟨#[119, 97, 105, 116]⟩, .string ⟨#[116, 105, 109, 101, 114]⟩, .string ⟨#[115, 101, 116]⟩, .string ⟨#[103, 117, 97, 114, 100]⟩] 9))) := hid (hb1.alloc hb1.size _)
  go_wp2
  go_ret
  exact ⟨rfl, HA.out⟩
set_option maxRecDepth 100000 in
set_option maxHeartbeats 4000000 in
theorem line13 (B : Nat) (s : StepD) (g o a : Nat) (vc ve : Value) (w : World) (hF : Fine s) (hk : s.kind = 3) (ha : True) (hq : 0 < s.cond.length) (hs : SAt w g o s vc ve) (hc : Nd.At w B vc s.cond) (he : Nd.At w B ve s.expr) :
    Calls Tryz.prog 36 #[.pointer (some ⟨g, o, none⟩)] w fun e w' => e = .returned (.string (str (lineL s))) ∧ Below w.heap.size w w' := by
  obtain ⟨c0, c1, c2, c3, c4, c5⟩ := hs
  have hlt := Nd.lt_of_cell c0
  obtain ⟨ac, cc, rfl⟩ := hc.slice
  obtain ⟨ae, ce, rfl⟩ := he.slice
  have zc : (str (textOf s.cond)).size ≤ 64 := by rw [str_size]; exact text_len (hF.cond hq)
  have HC := hid (specETxt B s.cond _ w (hF.cond hq) hc)
  have y0 : (ByteArray.mk #[]).size = 0 := rfl
  have y1 : (ByteArray.mk #[32]).size = 1 := rfl
  have y2 : (ByteArray.mk #[105, 102, 32]).size = 3 := rfl
  have y3 : (ByteArray.mk #[120, 111, 114]).size = 3 := rfl
  have y4 : (ByteArray.mk #[32, 118]).size = 2 := rfl
  have ad0 := add_str (ByteArray.mk #[105, 102, 32]) (str (textOf s.cond)) (by (try simp only [ByteArray.size_append]); omega)
  have ad1 := add_str (ByteArray.mk #[105, 102, 32] ++ str (textOf s.cond)) (ByteArray.mk #[32]) (by (try simp only [ByteArray.size_append]); omega)
  have ad2 := add_str ((ByteArray.mk #[105, 102, 32] ++ str (textOf s.cond) ++ ByteArray.mk #[32])) (ByteArray.mk #[120, 111, 114]) (by (try simp only [ByteArray.size_append]); omega)
  have HV : Hid (str (lineL s) = (ByteArray.mk #[105, 102, 32] ++ str (textOf s.cond) ++ ByteArray.mk #[32]) ++ ByteArray.mk #[120, 111, 114]) := hid (by
    have e1 : wordL s.kind = [120, 111, 114] := by rw [hk]; rfl
    have e2 : tailL s = [] := by unfold tailL; rw [if_neg (by omega), if_neg (by omega), if_neg (by omega)]
    have e3 : condL s = [105, 102, 32] ++ textOf s.cond ++ [32] := by unfold condL; rw [if_neg (by omega)]
    unfold lineL; rw [e1, e2, e3]
    simp only [← str_app, List.append_nil, ByteArray.append_assoc]
    rfl)
  rw [HV.out]
  rw [hk] at c0
  have q1 : (0 : Int) < (s.cond.length : Int) := by omega
  clear HV hk hF hc he y0 y1 y2 y3 y4 zc
  generalize str (textOf s.cond) = tc at *
  go_enter Tryz.func36, Tryz.ntmps36
  go_wp2_with fail
  refine HC.out.mono ?_
  rintro e w1 ⟨rfl, hb1⟩
  have d0 := kept_cell hb1 hlt c0
  have d2 := kept_cell hb1 hlt c2
  have d3 := kept_cell hb1 hlt c3
  have d5 := kept_cell hb1 hlt c5
  clear c0 c2 c3 c5 HC
  have hl1 : g < w1.heap.size := Nat.lt_of_lt_of_le hlt hb1.size
  have HA : Hid (Below w.heap.size w (w1.alloc (.cells #[.string ⟨#[]⟩, .string ⟨#[115, 101, 113]⟩, .string ⟨#[116, 97, 115, 107]⟩, .string ⟨#[120, 111, 114]⟩, .string ⟨#[97, 110, 100]⟩, .string ⟨#[119, 97, 105, 116]⟩, .string ⟨#[116, 105, 109, 101, 114]⟩, .string ⟨#[115, 101, 116]⟩, .string ⟨#[103, 117, 97, 114, 100]⟩] 9))) := hid (hb1.alloc hb1.size _)
  go_wp2
  go_ret
  exact ⟨rfl, HA.out⟩
set_option maxRecDepth 100000 in
set_option maxHeartbeats 4000000 in
theorem line14 (B : Nat) (s : StepD) (g o a : Nat) (vc ve : Value) (w : World) (hF : Fine s) (hk : s.kind = 4) (ha : True) (hq : 0 < s.cond.length) (hs : SAt w g o s vc ve) (hc : Nd.At w B vc s.cond) (he : Nd.At w B ve s.expr) :
    Calls Tryz.prog 36 #[.pointer (some ⟨g, o, none⟩)] w fun e w' => e = .returned (.string (str (lineL s))) ∧ Below w.heap.size w w' := by
  obtain ⟨c0, c1, c2, c3, c4, c5⟩ := hs
  have hlt := Nd.lt_of_cell c0
  obtain ⟨ac, cc, rfl⟩ := hc.slice
  obtain ⟨ae, ce, rfl⟩ := he.slice
  have zc : (str (textOf s.cond)).size ≤ 64 := by rw [str_size]; exact text_len (hF.cond hq)
  have HC := hid (specETxt B s.cond _ w (hF.cond hq) hc)
  have y0 : (ByteArray.mk #[]).size = 0 := rfl
  have y1 : (ByteArray.mk #[32]).size = 1 := rfl
  have y2 : (ByteArray.mk #[105, 102, 32]).size = 3 := rfl
  have y3 : (ByteArray.mk #[97, 110, 100]).size = 3 := rfl
  have y4 : (ByteArray.mk #[32, 118]).size = 2 := rfl
  have ad0 := add_str (ByteArray.mk #[105, 102, 32]) (str (textOf s.cond)) (by (try simp only [ByteArray.size_append]); omega)
  have ad1 := add_str (ByteArray.mk #[105, 102, 32] ++ str (textOf s.cond)) (ByteArray.mk #[32]) (by (try simp only [ByteArray.size_append]); omega)
  have ad2 := add_str ((ByteArray.mk #[105, 102, 32] ++ str (textOf s.cond) ++ ByteArray.mk #[32])) (ByteArray.mk #[97, 110, 100]) (by (try simp only [ByteArray.size_append]); omega)
  have HV : Hid (str (lineL s) = (ByteArray.mk #[105, 102, 32] ++ str (textOf s.cond) ++ ByteArray.mk #[32]) ++ ByteArray.mk #[97, 110, 100]) := hid (by
    have e1 : wordL s.kind = [97, 110, 100] := by rw [hk]; rfl
    have e2 : tailL s = [] := by unfold tailL; rw [if_neg (by omega), if_neg (by omega), if_neg (by omega)]
    have e3 : condL s = [105, 102, 32] ++ textOf s.cond ++ [32] := by unfold condL; rw [if_neg (by omega)]
    unfold lineL; rw [e1, e2, e3]
    simp only [← str_app, List.append_nil, ByteArray.append_assoc]
    rfl)
  rw [HV.out]
  rw [hk] at c0
  have q1 : (0 : Int) < (s.cond.length : Int) := by omega
  clear HV hk hF hc he y0 y1 y2 y3 y4 zc
  generalize str (textOf s.cond) = tc at *
  go_enter Tryz.func36, Tryz.ntmps36
  go_wp2_with fail
  refine HC.out.mono ?_
  rintro e w1 ⟨rfl, hb1⟩
  have d0 := kept_cell hb1 hlt c0
  have d2 := kept_cell hb1 hlt c2
  have d3 := kept_cell hb1 hlt c3
  have d5 := kept_cell hb1 hlt c5
  clear c0 c2 c3 c5 HC
  have hl1 : g < w1.heap.size := Nat.lt_of_lt_of_le hlt hb1.size
  have HA : Hid (Below w.heap.size w (w1.alloc (.cells #[.string ⟨#[]⟩, .string ⟨#[115, 101, 113]⟩, .string ⟨#[116, 97, 115, 107]⟩, .string ⟨#[120, 111, 114]⟩, .string ⟨#[97, 110, 100]⟩, .string ⟨#[119, 97, 105, 116]⟩, .string ⟨#[116, 105, 109, 101, 114]⟩, .string ⟨#[115, 101, 116]⟩, .string ⟨#[103, 117, 97, 114, 100]⟩] 9))) := hid (hb1.alloc hb1.size _)
  go_wp2
  go_ret
  exact ⟨rfl, HA.out⟩
set_option maxRecDepth 100000 in
set_option maxHeartbeats 4000000 in
theorem line15 (B : Nat) (s : StepD) (g o a : Nat) (vc ve : Value) (w : World) (hF : Fine s) (hk : s.kind = 5) (ha : s.arg = (a : Int)) (hq : 0 < s.cond.length) (hs : SAt w g o s vc ve) (hc : Nd.At w B vc s.cond) (he : Nd.At w B ve s.expr) :
    Calls Tryz.prog 36 #[.pointer (some ⟨g, o, none⟩)] w fun e w' => e = .returned (.string (str (lineL s))) ∧ Below w.heap.size w w' := by
  obtain ⟨c0, c1, c2, c3, c4, c5⟩ := hs
  have hlt := Nd.lt_of_cell c0
  obtain ⟨ac, cc, rfl⟩ := hc.slice
  obtain ⟨ae, ce, rfl⟩ := he.slice
  have zc : (str (textOf s.cond)).size ≤ 64 := by rw [str_size]; exact text_len (hF.cond hq)
  have HC := hid (specETxt B s.cond _ w (hF.cond hq) hc)
  have za : (str (decDigits a)).size ≤ 2 := by rw [str_size]; have := dig_len (hF.arg); rw [ha] at this; exact this
  have a99 : a ≤ 99 := by have := hF.arg; omega
  have HD := hid (fun (w' : World) => specDigits (a + 1) a w' (by omega) (by omega))
  have y0 : (ByteArray.mk #[]).size = 0 := rfl
  have y1 : (ByteArray.mk #[32]).size = 1 := rfl
  have y2 : (ByteArray.mk #[105, 102, 32]).size = 3 := rfl
  have y3 : (ByteArray.mk #[119, 97, 105, 116]).size = 4 := rfl
  have y4 : (ByteArray.mk #[32, 118]).size = 2 := rfl
  have ad0 := add_str (ByteArray.mk #[105, 102, 32]) (str (textOf s.cond)) (by (try simp only [ByteArray.size_append]); omega)
  have ad1 := add_str (ByteArray.mk #[105, 102, 32] ++ str (textOf s.cond)) (ByteArray.mk #[32]) (by (try simp only [ByteArray.size_append]); omega)
  have ad2 := add_str ((ByteArray.mk #[105, 102, 32] ++ str (textOf s.cond) ++ ByteArray.mk #[32])) (ByteArray.mk #[119, 97, 105, 116]) (by (try simp only [ByteArray.size_append]); omega)
  have ad3 := add_str ((ByteArray.mk #[105, 102, 32] ++ str (textOf s.cond) ++ ByteArray.mk #[32]) ++ ByteArray.mk #[119, 97, 105, 116]) (ByteArray.mk #[32]) (by (try simp only [ByteArray.size_append]); omega)
  have ad4 := add_str ((ByteArray.mk #[105, 102, 32] ++ str (textOf s.cond) ++ ByteArray.mk #[32]) ++ ByteArray.mk #[119, 97, 105, 116] ++ ByteArray.mk #[32]) (str (decDigits a)) (by (try simp only [ByteArray.size_append]); omega)
  have HV : Hid (str (lineL s) = (ByteArray.mk #[105, 102, 32] ++ str (textOf s.cond) ++ ByteArray.mk #[32]) ++ ByteArray.mk #[119, 97, 105, 116] ++ ByteArray.mk #[32] ++ str (decDigits a)) := hid (by
    have e1 : wordL s.kind = [119, 97, 105, 116] := by rw [hk]; rfl
    have e2 : tailL s = [32] ++ decDigits a := by unfold tailL; rw [if_neg (by omega), if_neg (by omega), if_pos (by omega), ha]; rfl
    have e3 : condL s = [105, 102, 32] ++ textOf s.cond ++ [32] := by unfold condL; rw [if_neg (by omega)]
    unfold lineL; rw [e1, e2, e3]
    simp only [← str_app, List.append_nil, ByteArray.append_assoc]
    rfl)
  rw [HV.out]
  rw [hk] at c0
  rw [ha] at c3
  have q1 : (0 : Int) < (s.cond.length : Int) := by omega
  clear HV hk hF hc he y0 y1 y2 y3 y4 zc za a99 ha
  generalize str (textOf s.cond) = tc at *
  generalize str (decDigits a) = da at *
  go_enter Tryz.func36, Tryz.ntmps36
  go_wp2_with fail
  refine HC.out.mono ?_
  rintro e w1 ⟨rfl, hb1⟩
  have d0 := kept_cell hb1 hlt c0
  have d2 := kept_cell hb1 hlt c2
  have d3 := kept_cell hb1 hlt c3
  have d5 := kept_cell hb1 hlt c5
  clear c0 c2 c3 c5 HC
  have hl1 : g < w1.heap.size := Nat.lt_of_lt_of_le hlt hb1.size
  have HA : Hid (Below w.heap.size w (w1.alloc (.cells #[.string ⟨#[]⟩, .string ⟨#[115, 101, 113]⟩, .string ⟨#[116, 97, 115, 107]⟩, .string ⟨#[120, 111, 114]⟩, .string ⟨#[97, 110, 100]⟩, .string ⟨#[119, 97, 105, 116]⟩, .string ⟨#[116, 105, 109, 101, 114]⟩, .string ⟨#[115, 101, 116]⟩, .string ⟨#[103, 117, 97, 114, 100]⟩] 9))) := hid (hb1.alloc hb1.size _)
  go_wp2_with fail
  refine (HD.out _).mono ?_
  rintro e w2 ⟨rfl, hb2⟩
  have B2 := HA.out.trans (hb2.mono HA.out.size)
  go_wp2
  go_ret
  exact ⟨rfl, B2⟩
set_option maxRecDepth 100000 in
set_option maxHeartbeats 4000000 in
theorem line16 (B : Nat) (s : StepD) (g o a : Nat) (vc ve : Value) (w : World) (hF : Fine s) (hk : s.kind = 6) (ha : s.arg = (a : Int)) (hq : 0 < s.cond.length) (hs : SAt w g o s vc ve) (hc : Nd.At w B vc s.cond) (he : Nd.At w B ve s.expr) :
    Calls Tryz.prog 36 #[.pointer (some ⟨g, o, none⟩)] w fun e w' => e = .returned (.string (str (lineL s))) ∧ Below w.heap.size w w' := by
  obtain ⟨c0, c1, c2, c3, c4, c5⟩ := hs
  have hlt := Nd.lt_of_cell c0
  obtain ⟨ac, cc, rfl⟩ := hc.slice
  obtain ⟨ae, ce, rfl⟩ := he.slice
  have zc : (str (textOf s.cond)).size ≤ 64 := by rw [str_size]; exact text_len (hF.cond hq)
  have HC := hid (specETxt B s.cond _ w (hF.cond hq) hc)
  have za : (str (decDigits a)).size ≤ 2 := by rw [str_size]; have := dig_len (hF.arg); rw [ha] at this; exact this
  have a99 : a ≤ 99 := by have := hF.arg; omega
  have HD := hid (fun (w' : World) => specDigits (a + 1) a w' (by omega) (by omega))
  have y0 : (ByteArray.mk #[]).size = 0 := rfl
  have y1 : (ByteArray.mk #[32]).size = 1 := rfl
  have y2 : (ByteArray.mk #[105, 102, 32]).size = 3 := rfl
  have y3 : (ByteArray.mk #[116, 105, 109, 101, 114]).size = 5 := rfl
  have y4 : (ByteArray.mk #[32, 118]).size = 2 := rfl
  have ad0 := add_str (ByteArray.mk #[105, 102, 32]) (str (textOf s.cond)) (by (try simp only [ByteArray.size_append]); omega)
  have ad1 := add_str (ByteArray.mk #[105, 102, 32] ++ str (textOf s.cond)) (ByteArray.mk #[32]) (by (try simp only [ByteArray.size_append]); omega)
  have ad2 := add_str ((ByteArray.mk #[105, 102, 32] ++ str (textOf s.cond) ++ ByteArray.mk #[32])) (ByteArray.mk #[116, 105, 109, 101, 114]) (by (try simp only [ByteArray.size_append]); omega)
  have ad3 := add_str ((ByteArray.mk #[105, 102, 32] ++ str (textOf s.cond) ++ ByteArray.mk #[32]) ++ ByteArray.mk #[116, 105, 109, 101, 114]) (ByteArray.mk #[32]) (by (try simp only [ByteArray.size_append]); omega)
  have ad4 := add_str ((ByteArray.mk #[105, 102, 32] ++ str (textOf s.cond) ++ ByteArray.mk #[32]) ++ ByteArray.mk #[116, 105, 109, 101, 114] ++ ByteArray.mk #[32]) (str (decDigits a)) (by (try simp only [ByteArray.size_append]); omega)
  have HV : Hid (str (lineL s) = (ByteArray.mk #[105, 102, 32] ++ str (textOf s.cond) ++ ByteArray.mk #[32]) ++ ByteArray.mk #[116, 105, 109, 101, 114] ++ ByteArray.mk #[32] ++ str (decDigits a)) := hid (by
    have e1 : wordL s.kind = [116, 105, 109, 101, 114] := by rw [hk]; rfl
    have e2 : tailL s = [32] ++ decDigits a := by unfold tailL; rw [if_neg (by omega), if_neg (by omega), if_pos (by omega), ha]; rfl
    have e3 : condL s = [105, 102, 32] ++ textOf s.cond ++ [32] := by unfold condL; rw [if_neg (by omega)]
    unfold lineL; rw [e1, e2, e3]
    simp only [← str_app, List.append_nil, ByteArray.append_assoc]
    rfl)
  rw [HV.out]
  rw [hk] at c0
  rw [ha] at c3
  have q1 : (0 : Int) < (s.cond.length : Int) := by omega
  clear HV hk hF hc he y0 y1 y2 y3 y4 zc za a99 ha
  generalize str (textOf s.cond) = tc at *
  generalize str (decDigits a) = da at *
  go_enter Tryz.func36, Tryz.ntmps36
  go_wp2_with fail
  refine HC.out.mono ?_
  rintro e w1 ⟨rfl, hb1⟩
  have d0 := kept_cell hb1 hlt c0
  have d2 := kept_cell hb1 hlt c2
  have d3 := kept_cell hb1 hlt c3
  have d5 := kept_cell hb1 hlt c5
  clear c0 c2 c3 c5 HC
  have hl1 : g < w1.heap.size := Nat.lt_of_lt_of_le hlt hb1.size
  have HA : Hid (Below w.heap.size w (w1.alloc (.cells #[.string ⟨#[]⟩, .string ⟨#[115, 101, 113]⟩, .string ⟨#[116, 97, 115, 107]⟩, .string ⟨#[120, 111, 114]⟩, .string ⟨#[97, 110, 100]⟩, .string ⟨#[119, 97, 105, 116]⟩, .string ⟨#[116, 105, 109, 101, 114]⟩, .string ⟨#[115, 101, 116]⟩, .string ⟨#[103, 117, 97, 114, 100]⟩] 9))) := hid (hb1.alloc hb1.size _)
  go_wp2_with fail
  refine (HD.out _).mono ?_
  rintro e w2 ⟨rfl, hb2⟩
  have B2 := HA.out.trans (hb2.mono HA.out.size)
  go_wp2
  go_ret
  exact ⟨rfl, B2⟩
set_option maxRecDepth 100000 in
set_option maxHeartbeats 4000000 in
theorem line17 (B : Nat) (s : StepD) (g o a : Nat) (vc ve : Value) (w : World) (hF : Fine s) (hk : s.kind = 7) (ha : s.arg = (a : Int)) (hq : 0 < s.cond.length) (hs : SAt w g o s vc ve) (hc : Nd.At w B vc s.cond) (he : Nd.At w B ve s.expr) :
    Calls Tryz.prog 36 #[.pointer (some ⟨g, o, none⟩)] w fun e w' => e = .returned (.string (str (lineL s))) ∧ Below w.heap.size w w' := by
  obtain ⟨c0, c1, c2, c3, c4, c5⟩ := hs
  have hlt := Nd.lt_of_cell c0
  obtain ⟨ac, cc, rfl⟩ := hc.slice
  obtain ⟨ae, ce, rfl⟩ := he.slice
  have zc : (str (textOf s.cond)).size ≤ 64 := by rw [str_size]; exact text_len (hF.cond hq)
  have HC := hid (specETxt B s.cond _ w (hF.cond hq) hc)
  have za : (str (decDigits a)).size ≤ 2 := by rw [str_size]; have := dig_len (hF.arg); rw [ha] at this; exact this
  have a99 : a ≤ 99 := by have := hF.arg; omega
  have ze : (str (textOf s.expr)).size ≤ 64 := by rw [str_size]; exact text_len (hF.expr hk)
  have HX := hid (fun (w' : World) (h : Below w.heap.size w w') => specETxt B s.expr _ w' (hF.expr hk) (he.below h))
  have HD := hid (fun (w' : World) => specDigits (a + 1) a w' (by omega) (by omega))
  have y0 : (ByteArray.mk #[]).size = 0 := rfl
  have y1 : (ByteArray.mk #[32]).size = 1 := rfl
  have y2 : (ByteArray.mk #[105, 102, 32]).size = 3 := rfl
  have y3 : (ByteArray.mk #[115, 101, 116]).size = 3 := rfl
  have y4 : (ByteArray.mk #[32, 118]).size = 2 := rfl
  have ad0 := add_str (ByteArray.mk #[105, 102, 32]) (str (textOf s.cond)) (by (try simp only [ByteArray.size_append]); omega)
  have ad1 := add_str (ByteArray.mk #[105, 102, 32] ++ str (textOf s.cond)) (ByteArray.mk #[32]) (by (try simp only [ByteArray.size_append]); omega)
  have ad2 := add_str ((ByteArray.mk #[105, 102, 32] ++ str (textOf s.cond) ++ ByteArray.mk #[32])) (ByteArray.mk #[115, 101, 116]) (by (try simp only [ByteArray.size_append]); omega)
  have ad3 := add_str ((ByteArray.mk #[105, 102, 32] ++ str (textOf s.cond) ++ ByteArray.mk #[32]) ++ ByteArray.mk #[115, 101, 116]) (ByteArray.mk #[32, 118]) (by (try simp only [ByteArray.size_append]); omega)
  have ad4 := add_str ((ByteArray.mk #[105, 102, 32] ++ str (textOf s.cond) ++ ByteArray.mk #[32]) ++ ByteArray.mk #[115, 101, 116] ++ ByteArray.mk #[32, 118]) (str (decDigits a)) (by (try simp only [ByteArray.size_append]); omega)
  have ad5 := add_str ((ByteArray.mk #[105, 102, 32] ++ str (textOf s.cond) ++ ByteArray.mk #[32]) ++ ByteArray.mk #[115, 101, 116] ++ ByteArray.mk #[32, 118] ++ str (decDigits a)) (ByteArray.mk #[32]) (by (try simp only [ByteArray.size_append]); omega)
  have ad6 := add_str ((ByteArray.mk #[105, 102, 32] ++ str (textOf s.cond) ++ ByteArray.mk #[32]) ++ ByteArray.mk #[115, 101, 116] ++ ByteArray.mk #[32, 118] ++ str (decDigits a) ++ ByteArray.mk #[32]) (str (textOf s.expr)) (by (try simp only [ByteArray.size_append]); omega)
  have HV : Hid (str (lineL s) = (ByteArray.mk #[105, 102, 32] ++ str (textOf s.cond) ++ ByteArray.mk #[32]) ++ ByteArray.mk #[115, 101, 116] ++ ByteArray.mk #[32, 118] ++ str (decDigits a) ++ ByteArray.mk #[32] ++ str (textOf s.expr)) := hid (by
    have e1 : wordL s.kind = [115, 101, 116] := by rw [hk]; rfl
    have e2 : tailL s = [32, 118] ++ decDigits a ++ [32] ++ textOf s.expr := by unfold tailL; rw [if_neg (by omega), if_pos hk, ha]; rfl
    have e3 : condL s = [105, 102, 32] ++ textOf s.cond ++ [32] := by unfold condL; rw [if_neg (by omega)]
    unfold lineL; rw [e1, e2, e3]
    simp only [← str_app, List.append_nil, ByteArray.append_assoc]
    rfl)
  rw [HV.out]
  rw [hk] at c0
  rw [ha] at c3
  have q1 : (0 : Int) < (s.cond.length : Int) := by omega
  clear HV hk hF hc he y0 y1 y2 y3 y4 zc za a99 ha ze
  generalize str (textOf s.cond) = tc at *
  generalize str (textOf s.expr) = te at *
  generalize str (decDigits a) = da at *
  go_enter Tryz.func36, Tryz.ntmps36
  go_wp2_with fail
  refine HC.out.mono ?_
  rintro e w1 ⟨rfl, hb1⟩
  have d0 := kept_cell hb1 hlt c0
  have d2 := kept_cell hb1 hlt c2
  have d3 := kept_cell hb1 hlt c3
  have d5 := kept_cell hb1 hlt c5
  clear c0 c2 HC
  have hl1 : g < w1.heap.size := Nat.lt_of_lt_of_le hlt hb1.size
  have HA : Hid (Below w.heap.size w (w1.alloc (.cells #[.string ⟨#[]⟩, .string ⟨#[115, 101, 113]⟩, .string ⟨#[116, 97, 115, 107]⟩, .string ⟨#[120, 111, 114]⟩, .string ⟨#[97, 110, 100]⟩, .string ⟨#[119, 97, 105, 116]⟩, .string ⟨#[116, 105, 109, 101, 114]⟩, .string ⟨#[115, 101, 116]⟩, .string ⟨#[103, 117, 97, 114, 100]⟩] 9))) := hid (hb1.alloc hb1.size _)
  go_wp2
  have k3 := kept_cell HA.out hlt c3
  have k5 := kept_cell HA.out hlt c5
  have HDr := HA.out.drew
  have HS1 : g < (w1.alloc (.cells #[.string ⟨#[]⟩, .string ⟨#[115, 101, 113]⟩, .string ⟨#[116, 97, 115, 107]⟩, .string ⟨#[120, 111, 114]⟩, .string ⟨#[97, 110, 100]⟩, .string ⟨#[119, 97, 105, 116]⟩, .string ⟨#[116, 105, 109, 101, 114]⟩, .string ⟨#[115, 101, 116]⟩, .string ⟨#[103, 117, 97, 114, 100]⟩] 9)).drew.heap.size := by simp; omega
  have HS2 : w.heap.size ≤ (w1.alloc (.cells #[.string ⟨#[]⟩, .string ⟨#[115, 101, 113]⟩, .string ⟨#[116, 97, 115, 107]⟩, .string ⟨#[120, 111, 114]⟩, .string ⟨#[97, 110, 100]⟩, .string ⟨#[119, 97, 105, 116]⟩, .string ⟨#[116, 105, 109, 101, 114]⟩, .string ⟨#[115, 101, 116]⟩, .string ⟨#[103, 117, 97, 114, 100]⟩] 9)).drew.heap.size := by simp; have := hb1.size; omega
  go_region_held3 (fun wx => wx.cell? ⟨g, o + 3, none⟩ = some (.int .i64 (a : Int)) ∧ wx.cell? ⟨g, o + 5, none⟩ = some (.slice ae s.expr.length ce) ∧ Below w.heap.size w wx ∧ g < wx.heap.size ∧ w.heap.size ≤ wx.heap.size) (refine ⟨?_, ?_, ?_, ?_, ?_⟩ <;> first | assumption | (simp [*]; done)) (first | (go_at_call 60; refine (HD.out _).mono ?_; rintro e w4 ⟨rfl, hb4⟩; have j3 := kept_cell (b := g) (o := o + 3) (v := .int .i64 (a : Int)) hb4 (by assumption) (by assumption); have j5 := kept_cell (b := g) (o := o + 5) (v := .slice ae s.expr.length ce) hb4 (by assumption) (by assumption); have jB := Below.trans (a := w) (by assumption) (hb4.mono (by assumption)); have jl : g < w4.heap.size := Nat.lt_of_lt_of_le (by assumption) hb4.size; have jm : w.heap.size ≤ w4.heap.size := Nat.le_trans (by assumption) hb4.size) | (go_at_call 59; refine (HX.out _ (by assumption)).mono ?_; rintro e w4 ⟨rfl, hb4⟩; have j3 := kept_cell (b := g) (o := o + 3) (v := .int .i64 (a : Int)) hb4 (by assumption) (by assumption); have j5 := kept_cell (b := g) (o := o + 5) (v := .slice ae s.expr.length ce) hb4 (by assumption) (by assumption); have jB := Below.trans (a := w) (by assumption) (hb4.mono (by assumption)); have jl : g < w4.heap.size := Nat.lt_of_lt_of_le (by assumption) hb4.size; have jm : w.heap.size ≤ w4.heap.size := Nat.le_trans (by assumption) hb4.size))
  go_wp2
  go_ret
  exact ⟨rfl, by assumption⟩
set_option maxRecDepth 100000 in
set_option maxHeartbeats 4000000 in
theorem line18 (B : Nat) (s : StepD) (g o a : Nat) (vc ve : Value) (w : World) (hF : Fine s) (hk : s.kind = 8) (ha : s.arg = (a : Int)) (hq : 0 < s.cond.length) (hs : SAt w g o s vc ve) (hc : Nd.At w B vc s.cond) (he : Nd.At w B ve s.expr) :
    Calls Tryz.prog 36 #[.pointer (some ⟨g, o, none⟩)] w fun e w' => e = .returned (.string (str (lineL s))) ∧ Below w.heap.size w w' := by
  obtain ⟨c0, c1, c2, c3, c4, c5⟩ := hs
  have hlt := Nd.lt_of_cell c0
  obtain ⟨ac, cc, rfl⟩ := hc.slice
  obtain ⟨ae, ce, rfl⟩ := he.slice
  have zc : (str (textOf s.cond)).size ≤ 64 := by rw [str_size]; exact text_len (hF.cond hq)
  have HC := hid (specETxt B s.cond _ w (hF.cond hq) hc)
  have za : (str (decDigits a)).size ≤ 2 := by rw [str_size]; have := dig_len (hF.arg); rw [ha] at this; exact this
  have a99 : a ≤ 99 := by have := hF.arg; omega
  have HD := hid (fun (w' : World) => specDigits (a + 1) a w' (by omega) (by omega))
  have y0 : (ByteArray.mk #[]).size = 0 := rfl
  have y1 : (ByteArray.mk #[32]).size = 1 := rfl
  have y2 : (ByteArray.mk #[105, 102, 32]).size = 3 := rfl
  have y3 : (ByteArray.mk #[103, 117, 97, 114, 100]).size = 5 := rfl
  have y4 : (ByteArray.mk #[32, 118]).size = 2 := rfl
  have ad0 := add_str (ByteArray.mk #[105, 102, 32]) (str (textOf s.cond)) (by (try simp only [ByteArray.size_append]); omega)
  have ad1 := add_str (ByteArray.mk #[105, 102, 32] ++ str (textOf s.cond)) (ByteArray.mk #[32]) (by (try simp only [ByteArray.size_append]); omega)
  have ad2 := add_str ((ByteArray.mk #[105, 102, 32] ++ str (textOf s.cond) ++ ByteArray.mk #[32])) (ByteArray.mk #[103, 117, 97, 114, 100]) (by (try simp only [ByteArray.size_append]); omega)
  have ad3 := add_str ((ByteArray.mk #[105, 102, 32] ++ str (textOf s.cond) ++ ByteArray.mk #[32]) ++ ByteArray.mk #[103, 117, 97, 114, 100]) (ByteArray.mk #[32]) (by (try simp only [ByteArray.size_append]); omega)
  have ad4 := add_str ((ByteArray.mk #[105, 102, 32] ++ str (textOf s.cond) ++ ByteArray.mk #[32]) ++ ByteArray.mk #[103, 117, 97, 114, 100] ++ ByteArray.mk #[32]) (str (decDigits a)) (by (try simp only [ByteArray.size_append]); omega)
  have HV : Hid (str (lineL s) = (ByteArray.mk #[105, 102, 32] ++ str (textOf s.cond) ++ ByteArray.mk #[32]) ++ ByteArray.mk #[103, 117, 97, 114, 100] ++ ByteArray.mk #[32] ++ str (decDigits a)) := hid (by
    have e1 : wordL s.kind = [103, 117, 97, 114, 100] := by rw [hk]; rfl
    have e2 : tailL s = [32] ++ decDigits a := by unfold tailL; rw [if_neg (by omega), if_neg (by omega), if_pos (by omega), ha]; rfl
    have e3 : condL s = [105, 102, 32] ++ textOf s.cond ++ [32] := by unfold condL; rw [if_neg (by omega)]
    unfold lineL; rw [e1, e2, e3]
    simp only [← str_app, List.append_nil, ByteArray.append_assoc]
    rfl)
  rw [HV.out]
  rw [hk] at c0
  rw [ha] at c3
  have q1 : (0 : Int) < (s.cond.length : Int) := by omega
  clear HV hk hF hc he y0 y1 y2 y3 y4 zc za a99 ha
  generalize str (textOf s.cond) = tc at *
  generalize str (decDigits a) = da at *
  go_enter Tryz.func36, Tryz.ntmps36
  go_wp2_with fail
  refine HC.out.mono ?_
  rintro e w1 ⟨rfl, hb1⟩
  have d0 := kept_cell hb1 hlt c0
  have d2 := kept_cell hb1 hlt c2
  have d3 := kept_cell hb1 hlt c3
  have d5 := kept_cell hb1 hlt c5
  clear c0 c2 c3 c5 HC
  have hl1 : g < w1.heap.size := Nat.lt_of_lt_of_le hlt hb1.size
  have HA : Hid (Below w.heap.size w (w1.alloc (.cells #[.string ⟨#[]⟩, .string ⟨#[115, 101, 113]⟩, .string ⟨#[116, 97, 115, 107]⟩, .string ⟨#[120, 111, 114]⟩, .string ⟨#[97, 110, 100]⟩, .string ⟨#[119, 97, 105, 116]⟩, .string ⟨#[116, 105, 109, 101, 114]⟩, .string ⟨#[115, 101, 116]⟩, .string ⟨#[103, 117, 97, 114, 100]⟩] 9))) := hid (hb1.alloc hb1.size _)
  go_wp2_with fail
  refine (HD.out _).mono ?_
  rintro e w2 ⟨rfl, hb2⟩
  have B2 := HA.out.trans (hb2.mono HA.out.size)
  go_wp2
  go_ret
  exact ⟨rfl, B2⟩
theorem specLine2 (B : Nat) (s : StepD) (g o : Nat) (vc ve : Value) (w : World) (hF : Fine s) (hs : SAt w g o s vc ve) (hc : Nd.At w B vc s.cond) (he : Nd.At w B ve s.expr) :
    Calls Tryz.prog 36 #[.pointer (some ⟨g, o, none⟩)] w fun e w' => e = .returned (.string (str (lineL s))) ∧ Below w.heap.size w w' := by
  by_cases hq : s.cond.length = 0
  · rcases kinds hF.kind with hk | hk | hk | hk | hk | hk | hk | hk
    · exact line01 B s g o 0 vc ve w hF hk trivial (by omega) hs hc he
    · exact line02 B s g o 0 vc ve w hF hk trivial (by omega) hs hc he
    · exact line03 B s g o 0 vc ve w hF hk trivial (by omega) hs hc he
    · exact line04 B s g o 0 vc ve w hF hk trivial (by omega) hs hc he
    · have := hF.arg; exact line05 B s g o s.arg.toNat vc ve w hF hk (by omega) (by omega) hs hc he
    · have := hF.arg; exact line06 B s g o s.arg.toNat vc ve w hF hk (by omega) (by omega) hs hc he
    · have := hF.arg; exact line07 B s g o s.arg.toNat vc ve w hF hk (by omega) (by omega) hs hc he
    · have := hF.arg; exact line08 B s g o s.arg.toNat vc ve w hF hk (by omega) (by omega) hs hc he
  · rcases kinds hF.kind with hk | hk | hk | hk | hk | hk | hk | hk
    · exact line11 B s g o 0 vc ve w hF hk trivial (by omega) hs hc he
    · exact line12 B s g o 0 vc ve w hF hk trivial (by omega) hs hc he
    · exact line13 B s g o 0 vc ve w hF hk trivial (by omega) hs hc he
    · exact line14 B s g o 0 vc ve w hF hk trivial (by omega) hs hc he
    · have := hF.arg; exact line15 B s g o s.arg.toNat vc ve w hF hk (by omega) (by omega) hs hc he
    · have := hF.arg; exact line16 B s g o s.arg.toNat vc ve w hF hk (by omega) (by omega) hs hc he
    · have := hF.arg; exact line17 B s g o s.arg.toNat vc ve w hF hk (by omega) (by omega) hs hc he
    · have := hF.arg; exact line18 B s g o s.arg.toNat vc ve w hF hk (by omega) (by omega) hs hc he
end Pf
end Go.Proofs.YtnbmpofmieagfaaGreatDoor
