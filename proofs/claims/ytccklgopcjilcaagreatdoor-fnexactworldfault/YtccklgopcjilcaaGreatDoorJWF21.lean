/- Laid together: JnN, MkT, JnR, JnP, JnQ. -/
import Derived.Test.YtccklgopcjilcaaGreatDoorJWF20
import Derived.Test.YtccklgopcjilcaaGreatDoorProg
import Derived.Lib.ItoaNum
import Derived.WalkKit
import Derived.Below
import Derived.Lib.SlBytesConst
import Derived.Test.YtccklgopcjilcaaGreatDoorJWF19
import Derived.Deep.RegionHeld3
import Derived.OneCell
/- The lines at the beginning of bytes, as the program and as the specification gather them. No condition. -/
namespace Go.Proofs.YtccklgopcjilcaaGreatDoor
open Go.RowKit
set_option linter.unusedVariables false
namespace Jn
theorem infoS : (Tryz.prog.info? 9).map (fun i => (i.zero, i.size, i.bytes)) = some (some (.string ⟨#[]⟩), 1, 16) := by kernel_rfl
def strs (ls : List (List UInt8)) : List Value := ls.map fun s => .string (str s)
theorem strs_len (ls : List (List UInt8)) : (strs ls).length = ls.length := by simp [strs]
theorem strs_app (a b : List (List UInt8)) : strs (a ++ b) = strs a ++ strs b := by simp [strs]
/-- A row of texts of one's own. -/
def Os (w : World) (B : Nat) (v : Value) (ls : List (List UInt8)) : Prop := w.ownsRow B 9 1 v ls.length (strs ls)
theorem os_nil (w : World) (B : Nat) : Os w B (.slice none 0 0) [] := World.ownsRow_nil _ _ _ _
theorem Os.lt {w : World} {B : Nat} {v : Value} {l : List (List UInt8)} (h : Os w B v l) : ∀ b, v.ownBlock = some b → B ≤ b ∧ b < w.heap.size := World.ownsRow.lt h
theorem Os.below {w w' : World} {B C : Nat} {v : Value} {l : List (List UInt8)} (h : Os w B v l) (hb : Below C w w') (ho : w.heap.size ≤ C) : Os w' B v l := by
  obtain ⟨h1, h2⟩ := h
  refine ⟨h1, ?_⟩
  rcases h2 with h2 | ⟨g, cap, cur, a1, a2, a3, a4⟩
  · exact .inl h2
  · refine .inr ⟨g, cap, cur, a1, a2, ?_, a4⟩
    have hlt : g < w.heap.size := by
      rcases Nat.lt_or_ge g w.heap.size with h | h
      · exact h
      · rw [Array.getElem?_eq_none h] at a3; cases a3
    rw [hb.block g (by omega)]
    exact a3
theorem os_set {w : World} {B b c : Nat} {v u : Value} {l : List (List UInt8)} (h : Os w B v l) (hb : b < B) : Os (w.setCell ⟨b, c, none⟩ u) B v l := own_set h hb
theorem os_mono {w : World} {B B' : Nat} {v : Value} {l : List (List UInt8)} (h : Os w B v l) (hb : B' ≤ B) : Os w B' v l := own_mono h hb
theorem Os.slice {w : World} {B : Nat} {v : Value} {l : List (List UInt8)} (h : Os w B v l) : ∃ a cap, v = .slice a l.length cap := by
  obtain ⟨hl, ⟨rfl, h0⟩ | ⟨g', cap', cur, hv, _⟩⟩ := h
  · exact ⟨none, 0, by rw [h0]⟩
  · exact ⟨_, _, hv⟩
theorem os_made (w : World) : Os (w.alloc (.cells #[] 9)) w.heap.size (.slice (some ⟨w.heap.size, 0, none⟩) 0 0) [] := ⟨rfl, .inr ⟨w.heap.size, 0, #[], rfl, Nat.le_refl _, heap_alloc_new w _, Nat.le_refl _, by unfold maxLen; omega, rfl, rfl⟩⟩
theorem row_s (w : World) (s : ByteArray) : Ap.Row (w.alloc (.cells #[.string s] 9)) 1 (.slice (some ⟨w.heap.size, 0, none⟩) 1 1) 1 [.string s] :=
  ⟨_, _, rfl, rfl, (fun u hu => by simp at hu; rw [hu]; rfl), .inr ⟨_, rfl, World.news_of_block (cs := #[.string s]) (t := 9) (fr := (0, 0)) (heap_alloc_new w _)⟩⟩
theorem wpS (w : World) {ops : Array Oper} {rest : List Oper} {o : Oper} {a : Act} {Q : Exit → Act → World → Prop} (hgd : o.guard = none) (s x : Operand)
    (ho : o.op = .call { callee := .builtin .append, args := #[s, x], argTypes := #[211, 211] })
    (base : Nat) (v : Value) (ls : List (List UInt8)) (hs : a.eval s = v) (hown : Os w base v ls) (xv : Value) (z : List UInt8) (hx : a.eval x = xv) (hr : Ap.Row w 1 xv 1 [.string (str z)])
    (hz : ls.length ≤ 4194304) (hbase : base ≤ w.heap.size)
    (h : ∀ l a' c' w', l = ls ++ [z] → Os w' base (.slice a' l.length c') l → w.grownBy w' v.ownBlock → wpList Tryz.prog ops Q rest (a.put o.dst (.slice a' l.length c')) w') : wpList Tryz.prog ops Q (o :: rest) a w := by
  obtain ⟨i, hi, hi1, hi2, hi3⟩ := info_eq infoS
  refine Ap.wpList_any w hgd s x 211 ho base 9 i (.string ⟨#[]⟩) 1 16 Tryz.underlying211 hi hi1 hi2 hi3 rfl (by decide) v ls.length (strs ls) hs hown xv 1 [.string (str z)] hx hr (by unfold maxLen; omega) (by omega) hbase _ rfl ?_
  intro a' c' w' h1 h2 h3
  have e : ls.length + 1 = (ls ++ [z]).length := by simp
  rw [e]
  rw [e] at h1
  exact h (ls ++ [z]) a' c' w' rfl (by unfold Os; rw [strs_app]; exact h1) h2
/-- Lines of one's own, and how many bytes they take. -/
def LPost (r : List (List UInt8) × Nat) (w : World) (e : Ending) (w' : World) : Prop := ∃ a c, e = .returned (.tuple #[.slice a r.1.length c, .int .i64 (r.2 : Int)]) ∧ Os w' w.heap.size (.slice a r.1.length c) r.1 ∧ Below w.heap.size w w'
theorem lpost {ls : List (List UInt8)} {n : Nat} {r : List (List UInt8) × Nat} (h : r = (ls, n)) {w w' : World} {a : Option Addr} {c : Nat} {e : Ending} (he : e = .returned (.tuple #[.slice a ls.length c, .int .i64 (n : Int)])) (ho : Os w' w.heap.size (.slice a ls.length c) ls) (hb : Below w.heap.size w w') : LPost r w e w' := by
  subst h; exact ⟨a, c, he, ho, hb⟩
theorem read_at {d : List UInt8} {ls : List (List UInt8)} {k : Nat} (h : readL d = (ls ++ (readL (d.drop k)).1, k + (readL (d.drop k)).2)) :
    (oneN (d.drop k) = 0 → readL d = (ls, k)) ∧ (0 < oneN (d.drop k) → readL d = ((ls ++ [oneS (d.drop k)]) ++ (readL (d.drop (k + oneN (d.drop k)))).1, (k + oneN (d.drop k)) + (readL (d.drop (k + oneN (d.drop k)))).2)) := by
  constructor
  · intro h0
    rw [h, read_stop h0]
    simp
  · intro h0
    rw [h, read_step h0, List.drop_drop]
    simp [Nat.add_assoc]
set_option maxRecDepth 100000 in
set_option maxHeartbeats 4000000 in
theorem implLines (B : Nat) (d : List UInt8) (v : Value) (w : World) (hd : d.length ≤ 1048576) (hB : B ≤ w.heap.size) (ha : At w B v d) : Calls Tryz.prog 152 #[v] w (LPost (readL d) w) := by
  obtain ⟨a, c, rfl, hc⟩ := ha.slice
  have HA := hid ha
  clear ha
  obtain ⟨R, hR⟩ : ∃ R, Hid (R = LPost (readL d) w) := ⟨_, hid rfl⟩
  rw [← hR.out]
  go_enter Tryz.func152, Tryz.ntmps152
  go_wp2
  go_loopw [4, 5] (fun p q wr => ∃ (ls : List (List UInt8)) (k : Nat), q = .int .i64 (k : Int) ∧ k ≤ d.length ∧ ls.length ≤ k ∧ (∃ a5 c5, p = .slice a5 ls.length c5) ∧ Hid (Os wr w.heap.size p ls) ∧ Hid (readL d = (ls ++ (readL (d.drop k)).1, k + (readL (d.drop k)).2)) ∧ Hid (Below w.heap.size w wr)) (fun _ q _ => d.length - (intOf q).toNat)
  case atStart => exact ⟨[], 0, rfl, Nat.zero_le _, Nat.zero_le _, ⟨_, _, rfl⟩, hid (os_nil _ _), hid (by simp), hid (Below.refl _ _)⟩
  case round =>
    obtain ⟨ls, k, rfl, hk, hlk, ⟨a5, c5, rfl⟩, HO, HR, HBR⟩ := hrel
    obtain ⟨a6, c6, hsl, hat⟩ := (HA.out.below HBR.out hB).from k hk
    have HPA := hid (implAhead B (d.drop k) _ wr (by rw [List.length_drop]; omega) (Nat.le_trans hB HBR.out.size) (by have := hat; exact this))
    have HNX := hid (read_at HR.out)
    have hle := oneN_le (d.drop k)
    rw [List.length_drop] at hle
    unfold OPost at HPA
    generalize oneN (d.drop k) = n at *
    generalize oneS (d.drop k) = z at *
    clear hat
    go_wp2_with fail
    refine HPA.out.mono ?_
    rintro e w1 ⟨rfl, hb1⟩
    by_cases hz0 : n = 0
    · have b1 : ((n : Int) == 0) = true := beq_iff_eq.2 (by omega)
      have HX := hid (HNX.out.1 hz0)
      have HO1 := hid (HO.out.below hb1 (Nat.le_refl _))
      have HB1 := hid (HBR.out.trans (hb1.mono HBR.out.size))
      clear hz0 hb1 hsl
      go_wp2
      rw [hR.out]
      exact lpost (a := a5) (c := c5) HX.out (by rfl) HO1.out HB1.out
    · have b1 : ((n : Int) == 0) = false := beq_eq_false_iff_ne.2 (by omega)
      have HX := hid (HNX.out.2 (by omega))
      have hn0 : 0 < n := by omega
      have hB1 := HBR.out.trans (hb1.mono HBR.out.size)
      have HO1 : Hid (Os (w1.alloc (.cells #[.string (str z)] 9)) w.heap.size (.slice a5 ls.length c5) ls) := hid ((HO.out.below hb1 (Nat.le_refl _)).below ((Below.refl _ w1).alloc (Nat.le_refl _) _) (Nat.le_refl _))
      have HB1 : Hid (Below w.heap.size w (w1.alloc (.cells #[.string (str z)] 9))) := hid (hB1.alloc hB1.size _)
      have HRW := hid (row_s w1 (str z))
      have hs1 := HB1.out.size
      clear hz0 hb1 hsl hB1
      go_wp2_with (at_builtin; refine wpS _ rfl _ _ rfl w.heap.size _ ls rfl HO1.out _ z rfl HRW.out (by omega) hs1 ?_; intro l3 a3 c3 w3 hl3 ho3 hg3; have HL3 := hid hl3; have HO3 := hid ho3; have HG3 := hid hg3; have hll : l3.length = ls.length + 1 := (by rw [hl3, List.length_append]; rfl); have HLL := hid hll; clear hl3 ho3 hg3 hll)
      exact ⟨⟨l3, k + n, by simp, by omega, by have := HLL.out; omega, ⟨_, _, rfl⟩, HO3, hid (by rw [HL3.out]; exact HX.out), hid (HB1.out.grown HG3.out hs1 (fun b e => (HO1.out.lt b e).1))⟩, by simp [intOf]; omega⟩
set_option maxRecDepth 100000 in
set_option maxHeartbeats 4000000 in
theorem specLines (B : Nat) (d : List UInt8) (v : Value) (w : World) (hd : d.length ≤ 1048576) (hB : B ≤ w.heap.size) (ha : At w B v d) : Calls Tryz.prog 149 #[v] w (LPost (readL d) w) := by
  obtain ⟨a, c, rfl, hc⟩ := ha.slice
  have HA := hid ha
  clear ha
  obtain ⟨R, hR⟩ : ∃ R, Hid (R = LPost (readL d) w) := ⟨_, hid rfl⟩
  rw [← hR.out]
  go_enter Tryz.func149, Tryz.ntmps149
  go_wp2
  go_loopw [4, 5] (fun p q wr => ∃ (ls : List (List UInt8)) (k : Nat), q = .int .i64 (k : Int) ∧ k ≤ d.length ∧ ls.length ≤ k ∧ (∃ a5 c5, p = .slice a5 ls.length c5) ∧ Hid (Os wr w.heap.size p ls) ∧ Hid (readL d = (ls ++ (readL (d.drop k)).1, k + (readL (d.drop k)).2)) ∧ Hid (Below w.heap.size w wr)) (fun _ q _ => d.length - (intOf q).toNat)
  case atStart => exact ⟨[], 0, rfl, Nat.zero_le _, Nat.zero_le _, ⟨_, _, rfl⟩, hid (os_made _), hid (by simp), hid ((Below.refl _ w).alloc (Nat.le_refl _) _)⟩
  case round =>
    obtain ⟨ls, k, rfl, hk, hlk, ⟨a5, c5, rfl⟩, HO, HR, HBR⟩ := hrel
    obtain ⟨a6, c6, hsl, hat⟩ := (HA.out.below HBR.out hB).from k hk
    have HPA := hid (specOne B (d.drop k) _ wr (by rw [List.length_drop]; omega) (Nat.le_trans hB HBR.out.size) (by have := hat; exact this))
    have HNX := hid (read_at HR.out)
    have hle := oneN_le (d.drop k)
    rw [List.length_drop] at hle
    unfold OPost at HPA
    generalize oneN (d.drop k) = n at *
    generalize oneS (d.drop k) = z at *
    clear hat
    go_wp2_with fail
    refine HPA.out.mono ?_
    rintro e w1 ⟨rfl, hb1⟩
    by_cases hz0 : n = 0
    · have b1 : ((n : Int) == 0) = true := beq_iff_eq.2 (by omega)
      have HX := hid (HNX.out.1 hz0)
      have HO1 := hid (HO.out.below hb1 (Nat.le_refl _))
      have HB1 := hid (HBR.out.trans (hb1.mono HBR.out.size))
      clear hz0 hb1 hsl
      go_wp2
      rw [hR.out]
      exact lpost (a := a5) (c := c5) HX.out (by rfl) HO1.out HB1.out
    · have b1 : ((n : Int) == 0) = false := beq_eq_false_iff_ne.2 (by omega)
      have HX := hid (HNX.out.2 (by omega))
      have hn0 : 0 < n := by omega
      have hB1 := HBR.out.trans (hb1.mono HBR.out.size)
      have HO1 : Hid (Os (w1.alloc (.cells #[.string (str z)] 9)) w.heap.size (.slice a5 ls.length c5) ls) := hid ((HO.out.below hb1 (Nat.le_refl _)).below ((Below.refl _ w1).alloc (Nat.le_refl _) _) (Nat.le_refl _))
      have HB1 : Hid (Below w.heap.size w (w1.alloc (.cells #[.string (str z)] 9))) := hid (hB1.alloc hB1.size _)
      have HRW := hid (row_s w1 (str z))
      have hs1 := HB1.out.size
      clear hz0 hb1 hsl hB1
      go_wp2_with (at_builtin; refine wpS _ rfl _ _ rfl w.heap.size _ ls rfl HO1.out _ z rfl HRW.out (by omega) hs1 ?_; intro l3 a3 c3 w3 hl3 ho3 hg3; have HL3 := hid hl3; have HO3 := hid ho3; have HG3 := hid hg3; have hll : l3.length = ls.length + 1 := (by rw [hl3, List.length_append]; rfl); have HLL := hid hll; clear hl3 ho3 hg3 hll)
      exact ⟨⟨l3, k + n, by simp, by omega, by have := HLL.out; omega, ⟨_, _, rfl⟩, HO3, hid (by rw [HL3.out]; exact HX.out), hid (HB1.out.grown HG3.out hs1 (fun b e => (HO1.out.lt b e).1))⟩, by simp [intOf]; omega⟩
end Jn
end Go.Proofs.YtccklgopcjilcaaGreatDoor
/- The text of a mark, as the law lays it. -/
namespace Go.Proofs.YtccklgopcjilcaaGreatDoor
open Go.RowKit
set_option linter.unusedVariables false
namespace Mk
open Go.Lib (decDigits decDigits_one)
theorem hid {p : Prop} (h : p) : Hid p := h
theorem dec_big {n : Nat} (h : ¬ n < 10) : decDigits n = decDigits (n / 10) ++ [UInt8.ofNat (48 + n % 10)] := by rw [decDigits, dif_neg h]
def mt (k : Nat) : ByteArray := ⟨(109 :: decDigits k).toArray⟩
def dg (k : Nat) : UInt8 := UInt8.ofNat (48 + k % 10)
theorem dg_nat (j : Nat) : ((dg j).toNat : Int) = 48 + (j : Int) % 10 := by
  unfold dg
  have h : (48 + j % 10) < 256 := by omega
  rw [UInt8.toNat_ofNat', Nat.mod_eq_of_lt h]
  push_cast
  rfl
theorem conv1 (j : Nat) (w : World) : Sem.run Tryz.prog (convert 31 9 (.slice (some ⟨w.heap.size, 0, none⟩) 1 1)) (w.alloc (.cells #[.int .u8 (48 + (j : Int) % 10)] 5)) = .ok (.string ⟨[dg j].toArray⟩) (w.alloc (.cells #[.int .u8 (48 + (j : Int) % 10)] 5)) := by
  refine run_convert_bytes_back (P := Tryz.prog) _ 31 9 5 ⟨w.heap.size, 0, none⟩ 1 [dg j] Tryz.underlying31 Tryz.underlying5 Tryz.underlying9 ?_
  intro i hi
  obtain rfl : i = 0 := by simpa using hi
  simp [Addr.add, dg_nat]
theorem app_one (c : UInt8) (l : List UInt8) : Value.string (ByteArray.mk [c].toArray ++ ByteArray.mk l.toArray) = .string ⟨(c :: l).toArray⟩ := by
  apply congrArg Value.string; apply ByteArray.ext; simp
theorem next {K j : Nat} {l : List UInt8} (hj : 0 < j) (h : decDigits j ++ l = decDigits K) : (j / 10 = 0 ∧ dg j :: l = decDigits K) ∨ (0 < j / 10 ∧ decDigits (j / 10) ++ dg j :: l = decDigits K) := by
  by_cases h10 : j < 10
  · left
    refine ⟨by omega, ?_⟩
    rw [← h, decDigits_one h10]
    unfold dg
    rw [Nat.mod_eq_of_lt h10]
    rfl
  · right
    refine ⟨by omega, ?_⟩
    rw [← h, dec_big h10, List.append_assoc]
    rfl
set_option maxRecDepth 100000 in
set_option maxHeartbeats 2000000 in
theorem markText (k : Nat) (w : World) (h0 : 0 < k) (hk : k ≤ 35184372088832) : Calls Tryz.prog 101 #[.int .i64 k] w fun e w' => e = .returned (.string (mt k)) ∧ Below w.heap.size w w' := by
  have q0 : (0 : Int) < (k : Int) := by omega
  have q00 : k ≠ 0 := by omega
  go_enter Tryz.func101, Tryz.ntmps101
  go_wp2
  go_loopw [0, 3] (fun i o wr => ∃ (j : Nat) (l : List UInt8), i = .int .i64 j ∧ o = .string ⟨l.toArray⟩ ∧ l.length + j ≤ k ∧ Hid ((j = 0 ∧ l = decDigits k) ∨ (0 < j ∧ decDigits j ++ l = decDigits k)) ∧ Below w.heap.size w wr) (fun i _ _ => (intOf i).toNat)
  case atStart => exact ⟨k, [], rfl, rfl, by simp, hid (.inr ⟨h0, by rw [List.append_nil]⟩), Below.refl _ _⟩
  case round =>
    obtain ⟨j, l, rfl, rfl, hl, HD, hbel⟩ := hrel
    by_cases hj : 0 < j
    · have q1 : (0 : Int) < (j : Int) := by omega
      have HN : Hid ((j / 10 = 0 ∧ dg j :: l = decDigits k) ∨ (0 < j / 10 ∧ decDigits (j / 10) ++ dg j :: l = decDigits k)) := hid (by
        rcases HD.out with ⟨h, _⟩ | ⟨_, h⟩
        · omega
        · exact next hj h)
      go_wp2
      rw [conv1]
      simp only [Result.andThen]
      rw [Oper.upon_value]
      go_wp2
      exact ⟨⟨j / 10, dg j :: l, by simp, app_one _ _, by simp only [List.length_cons]; omega, HN, hbel.alloc hbel.size _⟩, by simp [intOf]; omega⟩
    · have q1 : ¬ (0 : Int) < (j : Int) := by omega
      have HL : Hid (l = decDigits k) := hid (by
        rcases HD.out with ⟨_, h⟩ | ⟨h, _⟩
        · exact h
        · omega)
      go_wp2
      go_ret
      refine ⟨?_, hbel⟩
      unfold mt
      rw [← HL.out]
      exact congrArg Ending.returned (app_one 109 l)
theorem markText' (k : Int) (w : World) (h0 : 0 < k) (hk : k ≤ 35184372088832) : Calls Tryz.prog 101 #[.int .i64 k] w fun e w' => e = .returned (.string (mt k.toNat)) ∧ Below w.heap.size w w' := by
  have h := markText k.toNat w (by omega) (by omega)
  rw [show ((k.toNat : Nat) : Int) = k by omega] at h
  exact h
end Mk
end Go.Proofs.YtccklgopcjilcaaGreatDoor
/- What the laws do with rows of texts and with copies of bytes. No condition. -/
namespace Go.Proofs.YtccklgopcjilcaaGreatDoor
open Go.RowKit
set_option linter.unusedVariables false
namespace Jn
open Go.Lib (decDigits)
open Mk (mt)
theorem make_row {P : Program} {t e : TypeId} {z : Value} {sz bytes : Nat} (ht : P.underlying t = some (.slice e)) (hinfo : (P.info? e).map (fun i => (i.zero, i.size, i.bytes)) = some (some z, sz, bytes))
    (n : Nat) (hb : bytes * n ≤ 281474976710656) (hn : n ≤ 9223372036854775807) (w : World) :
    (Instr.makeSlice t (.int .i64 (n : Int)) (.int .i64 (n : Int))).run P w = .ok (.slice (some ⟨w.heap.size, 0, none⟩) n n) (w.alloc (.cells (madeCells z.cells (n * sz)) e)) := by
  cases hi : P.info? e with
  | none => rw [hi] at hinfo; cases hinfo
  | some i =>
    rw [hi] at hinfo
    simp only [Option.map_some, Option.some.injEq, Prod.mk.injEq] at hinfo
    obtain ⟨h1, h2, h3⟩ := hinfo
    have hb' : (i.bytes : Int) * (n : Int) ≤ 281474976710656 := by
      have h : ((i.bytes * n : Nat) : Int) ≤ 281474976710656 := by rw [h3]; omega
      rwa [Int.natCast_mul] at h
    have h := run_make (P := P) w t e i z ht hi h1 .i64 .i64 n n (by omega) (Int.le_refl _) hb' (by omega)
    rw [h2] at h
    simpa using h
def halfV (d : List UInt8) (zs : List Value) (k : Nat) : List Value := vbs (d.take k) ++ zs.drop k
theorem halfV_set {d : List UInt8} {zs : List Value} {k : Nat} (h : k < d.length) (hz : zs.length = d.length) : (halfV d zs k).set k (vb d[k]) = halfV d zs (k + 1) := by
  unfold halfV
  have hk : (vbs (d.take k)).length = k := by rw [vbs_len, List.length_take]; omega
  rw [List.drop_eq_getElem_cons (by omega : k < zs.length), List.set_append_right _ _ (by omega), hk, Nat.sub_self, List.set_cons_zero, List.take_succ_eq_append_getElem h, vbs_app, List.append_assoc]
  rfl
set_option maxRecDepth 100000 in
set_option maxHeartbeats 2000000 in
theorem toS (B : Nat) (d : List UInt8) (v : Value) (w : World) (hl : d.length ≤ 1048576) (hB : B ≤ w.heap.size) (ha : At w B v d) :
    Calls Tryz.prog 107 #[v] w fun e w' => ∃ a c, e = .returned (.slice a d.length c) ∧ Ob w' w.heap.size (.slice a d.length c) d ∧ Below w.heap.size w w' := by
  obtain ⟨a, cap, rfl, hcap⟩ := ha.slice
  have HA := hid ha
  clear ha
  have hmk := make_row (P := Tryz.prog) Tryz.underlying31 info8 d.length (by omega) (by omega)
  obtain ⟨zs, hzs, hz1⟩ : ∃ zs : List Value, madeCells (Value.int .u8 0).cells (d.length * 1) = zs.toArray ∧ zs.length = d.length := ⟨(madeCells (Value.int .u8 0).cells (d.length * 1)).toList, by simp, by simp [size_madeCells]⟩
  have HO0 : Hid ((w.alloc (.cells zs.toArray 5)).ownsRow w.heap.size 5 1 (.slice (some ⟨w.heap.size, 0, none⟩) d.length d.length) d.length (halfV d zs 0)) := hid
    ⟨by simp [halfV, vbs, hz1], .inr ⟨w.heap.size, d.length, zs.toArray, rfl, Nat.le_refl _, heap_alloc_new w _, Nat.le_refl _, by unfold maxLen; omega, by simp [hz1], by simp [halfV, vbs]; exact List.take_of_length_le (by omega)⟩⟩
  have HZ := hid hz1
  rw [hzs] at hmk
  clear hzs hz1
  go_enter Tryz.func107, Tryz.ntmps107
  go_wp2
  go_loopw [4] (fun i wr => ∃ k : Nat, i = .int .i64 k ∧ k ≤ d.length ∧ Hid (wr.ownsRow w.heap.size 5 1 (.slice (some ⟨w.heap.size, 0, none⟩) d.length d.length) d.length (halfV d zs k)) ∧ Below w.heap.size w wr) (fun i _ => d.length - (intOf i).toNat)
  case atStart => exact ⟨0, rfl, Nat.zero_le _, HO0, (Below.refl _ _).alloc (Nat.le_refl _) _⟩
  case round =>
    obtain ⟨k, rfl, hkl, HR, hbel⟩ := hrel
    by_cases hlt : k < d.length
    · obtain ⟨g, o, rfl, hg, c0⟩ := (HA.out.below hbel hB).at hlt
      have q1 : (k : Int) < (d.length : Int) := by omega
      obtain ⟨⟨u, hcu⟩, hfu, hbg, hgl⟩ := owns_cell HR.out hlt
      have HS : Hid ((wr.setCell ⟨w.heap.size, k, none⟩ (vb d[k])).ownsRow w.heap.size 5 1 (.slice (some ⟨w.heap.size, 0, none⟩) d.length d.length) d.length (halfV d zs (k + 1))) := hid (by
        have h := (HR.out.stored k (vb d[k])).1
        rw [halfV_set hlt HZ.out] at h
        exact h)
      have hb2 : Below w.heap.size w (wr.setCell ⟨w.heap.size, k, none⟩ (vb d[k])) := hbel.setCell (by simp) _
      unfold vb at HS hb2 c0
      generalize (d[k].toNat : Int) = x at *
      go_wp2
      exact ⟨⟨k + 1, by simp, by omega, HS, hb2⟩, by simp [intOf]; omega⟩
    · obtain rfl : k = d.length := by omega
      have HX : Hid (Ob wr w.heap.size (.slice (some ⟨w.heap.size, 0, none⟩) d.length d.length) d) := hid (by
        have := HR.out
        unfold halfV at this
        rw [List.take_length, List.drop_eq_nil_of_le (Nat.le_of_eq HZ.out), List.append_nil] at this
        exact this)
      go_wp2
      go_ret
      exact ⟨_, _, rfl, HX.out, hbel⟩
theorem Os.cell {w : World} {B : Nat} {a : Option Addr} {n c : Nat} {ls : List (List UInt8)} (h : Os w B (.slice a n c) ls) {i : Nat} (hi : i < ls.length) : ∃ g, a = some ⟨g, 0, none⟩ ∧ g < w.heap.size ∧ w.cell? ⟨g, i, none⟩ = some (.string (str ls[i])) := by
  have hlt := h.lt
  have hcs := fun (g : Nat) (hg : (Value.slice a n c).ownBlock = some g) => World.ownsRow.cells h hg
  obtain ⟨h1, h2⟩ := h
  rcases h2 with ⟨_, hn⟩ | ⟨g, cap, cur, e, hB, hg, hc, _⟩
  · omega
  · cases e
    have := hcs g rfl i (.string (str ls[i])) (by simp [strs, hi])
    rw [addn, Nat.zero_add] at this
    exact ⟨g, rfl, (hlt g rfl).2, this⟩
def marksT (k n : Nat) : List (List UInt8) := (List.range n).map fun i => 109 :: decDigits (k + i)
theorem marksT_len (k n : Nat) : (marksT k n).length = n := by simp [marksT]
theorem marksT_succ (k n : Nat) : marksT k (n + 1) = marksT k n ++ [109 :: decDigits (k + n)] := by simp [marksT, List.range_succ]
theorem marksT_get {k n i : Nat} (h : i < n) : (marksT k n)[i]'(by rw [marksT_len]; exact h) = 109 :: decDigits (k + i) := by simp [marksT]
theorem mt_str (k : Nat) : mt k = str (109 :: decDigits k) := rfl
def halfT (k : Nat) (xs : List (List UInt8)) (i : Nat) : List (List UInt8) := marksT k i ++ xs.drop i
theorem halfT_set {k : Nat} {xs : List (List UInt8)} {i : Nat} (h : i < xs.length) : (halfT k xs i).set i (109 :: decDigits (k + i)) = halfT k xs (i + 1) := by
  unfold halfT
  rw [marksT_succ, List.drop_eq_getElem_cons h, List.set_append_right _ _ (Nat.le_of_eq (marksT_len k i)), marksT_len, Nat.sub_self, List.set_cons_zero, List.append_assoc]
  rfl
end Jn
end Go.Proofs.YtccklgopcjilcaaGreatDoor
/- ReadLines, of the program and of the specification. No condition. -/
namespace Go.Proofs.YtccklgopcjilcaaGreatDoor
open Go.RowKit
set_option linter.unusedVariables false
namespace Jn
def hasTo (e : List UInt8) (j : Nat) : Bool := (List.range j).any fun i => decide (0 < oneN (e.drop i))
def hasB (e : List UInt8) : Bool := hasTo e e.length
def brokenC (d : List UInt8) : Bool := hasB (d.drop ((readL d).2 + 1))
theorem hasTo_succ (e : List UInt8) (j : Nat) : hasTo e (j + 1) = (hasTo e j || decide (0 < oneN (e.drop j))) := by
  unfold hasTo
  rw [List.range_succ, List.any_append]
  simp
theorem hasTo_mono {e : List UInt8} {j : Nat} (h : j ≤ e.length) (hj : hasTo e j = true) : hasB e = true := by
  unfold hasB hasTo at *
  obtain ⟨i, hi, hb⟩ := List.any_eq_true.1 hj
  exact List.any_eq_true.2 ⟨i, List.mem_range.2 (Nat.lt_of_lt_of_le (List.mem_range.1 hi) h), hb⟩
theorem hasB_nil {e : List UInt8} (h : e.length = 0) : hasB e = false := by unfold hasB hasTo; rw [h]; rfl
/-- The lines of bytes: a code, whether they are broken, the lines. -/
def linesC (d : List UInt8) : Int := if 2400 < d.length then 2 else 0
def linesB (d : List UInt8) : Bool := if 2400 < d.length then false else brokenC d
def linesL (d : List UInt8) : List (List UInt8) := if 2400 < d.length then [] else (readL d).1
def QPost (d : List UInt8) (w : World) (e : Ending) (w' : World) : Prop := ∃ a c, e = .returned (.agg #[.int .i64 (linesC d), .bool (linesB d), .slice a (linesL d).length c]) ∧ Os w' w.heap.size (.slice a (linesL d).length c) (linesL d) ∧ Below w.heap.size w w'
theorem lines_many {d : List UInt8} (h : 2400 < d.length) : linesC d = 2 ∧ linesB d = false ∧ linesL d = [] := by unfold linesC linesB linesL; rw [if_pos h, if_pos h, if_pos h]; exact ⟨rfl, rfl, rfl⟩
theorem lines_ok {d : List UInt8} (h : ¬ 2400 < d.length) : linesC d = 0 ∧ linesB d = brokenC d ∧ linesL d = (readL d).1 := by unfold linesC linesB linesL; rw [if_neg h, if_neg h, if_neg h]; exact ⟨rfl, rfl, rfl⟩
theorem retQ {c c' : Int} {b b' : Bool} {v v' : Value} (h : c = c') (h2 : b = b') (h3 : v = v') : Ending.returned (.agg #[.int .i64 c, .bool b, v]) = .returned (.agg #[.int .i64 c', .bool b', v']) := by rw [h, h2, h3]
theorem qpost_many {d : List UInt8} (h : 2400 < d.length) {w w' : World} {e : Ending} (he : e = .returned (.agg #[.int .i64 2, .bool false, .slice none 0 0])) (hb : Below w.heap.size w w') : QPost d w e w' := by
  obtain ⟨h1, h2, h3⟩ := lines_many h
  refine ⟨none, 0, by rw [he, h1, h2, h3]; rfl, ?_, hb⟩
  rw [h3]
  exact os_nil _ _
theorem qpost_ok {d : List UInt8} (h : ¬ 2400 < d.length) {ls : List (List UInt8)} {b : Bool} (hl : ls = (readL d).1) (hbk : b = brokenC d) {w w' : World} {e : Ending} {a : Option Addr} {c : Nat} (he : e = .returned (.agg #[.int .i64 0, .bool b, .slice a ls.length c])) (ho : Os w' w.heap.size (.slice a ls.length c) ls) (hb : Below w.heap.size w w') : QPost d w e w' := by
  obtain ⟨h1, h2, h3⟩ := lines_ok h
  subst hl
  refine ⟨a, c, by rw [he, h1, h2, h3, hbk], ?_, hb⟩
  rw [h3]
  exact ho
end Jn
end Go.Proofs.YtccklgopcjilcaaGreatDoor
/- ReadLines of the specification. No condition. -/
namespace Go.Proofs.YtccklgopcjilcaaGreatDoor
open Go.RowKit
set_option linter.unusedVariables false
namespace Jn
theorem blk_free {w : World} {b o : Nat} {cs : Array Value} {t : TypeId} (h : w.heap[b]? = some (.cells cs t (0, 0))) : w.frozen? ⟨b, o, none⟩ = false := by
  simp only [World.frozen?, h]
  simp
theorem blk_set {w : World} {b : Nat} {t : TypeId} {cs : Array Value} (h : w.heap[b]? = some (.cells cs t (0, 0))) (o : Nat) (u : Value) (hu : u.oneCell' = true) (ho : o < cs.size) : (w.setCell ⟨b, o, none⟩ u).heap[b]? = some (.cells (cs.setIfInBounds o u) t (0, 0)) := by
  simp [World.setCell, Array.getElem?_modify, h]
end Jn
end Go.Proofs.YtccklgopcjilcaaGreatDoor
